package store

import "groat/api"

// An Apply needs two free segments: one that its group may take, and one that stays free, so that to compact can always go on to its end. For what lives of the oldest segment's groups, laid anew one group behind the other, goes into what is left of the segment at hand and then into one free segment at the most, as all of it was in one; and with that the oldest segment is free (but for the one that was at hand when it began: that comes last). A crash amid this costs no room: what was laid anew by then is not the oldest any more.
const reserve = 2

// wholly is more segments than are ever free.
const wholly = api.MaxSegments + 1

// compact takes dead records out of the log, from its first group on, till so many segments are free, or none is dead.
func (s *Store) compact(room int) {
	for s.dead > 0 && s.log.Room() < room {
		if !s.cut() {
			s.layAnew()
		}
	}
}

// cut gives up the log's first groups, as far as all their records are dead; it tells whether there are such.
func (s *Store) cut() bool {
	first := s.log.First()
	no := first
	for no < s.log.Next() && s.groups[no].live == 0 {
		no++
	}
	if no == first {
		return false
	}
	check(s.log.Cut(no))
	for ; first < no; first++ {
		s.dead -= s.groups[first].dead
		delete(s.groups, first)
	}
	return true
}

// layAnew lays what lives of the log's first group behind all others. What its other records say nobody misses: there is no group ahead of it of which they would take anything away.
func (s *Store) layAnew() {
	no := s.log.First()
	var l []api.Change
	for row, c := range s.read(no) {
		if place, is := s.keys.Get(string(c.Key)); is && place == placeOf(no, row) {
			l = append(l, c)
		}
	}
	if len(l) != s.groups[no].live { // another hand wrote there; without this a log might be gone through for ever
		throw(api.ErrCorrupt)
	}
	s.lay(l)
}
