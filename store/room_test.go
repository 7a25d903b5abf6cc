package store

import (
	"fmt"
	"math/rand"
	"slices"
	"strings"
	"testing"

	"groat/api"
)

// most is what all pairs of a store on so many segments may cost together, so that there is room (P9.5).
func most(segments int) int { return 3 * (segments - 4) }

// sizeOfCost is how many bytes a pair of a cost has at the most.
func sizeOfCost(cost int) int { return 40*cost - 1 - 2 - 4 }

// randomPair is a pair of a few keys, of a cost not above most; none, if there is none.
func randomPair(rnd *rand.Rand, most int) (api.Change, bool) {
	if most < 1 {
		return api.Change{}, false
	}
	keys := []string{"a", "b", "c", "aa", "bcd", "key", strings.Repeat("k", 32), "\xff\xff", "bc", "bb", "c1", "c2"}
	key := keys[rnd.Intn(len(keys))]
	cost := min(most, 27)
	if rnd.Intn(3) > 0 {
		cost = 1 + rnd.Intn(cost)
	}
	size := min(sizeOfCost(cost), len(key)+api.MaxValue)
	if rnd.Intn(3) == 0 {
		size -= rnd.Intn(40)
	}
	value := make([]byte, max(size-len(key), 0))
	rnd.Read(value)
	return set(key, string(value)), true
}

// randomChanges are changes of a store behind each of which its pairs cost at most so much together, and mostly about as much; often as many as go into one Apply.
func randomChanges(rnd *rand.Rand, m plain, most int) changes {
	m = m.behind(nil)
	var l changes
	for range 1 + rnd.Intn(16) {
		c, is := randomPair(rnd, most)
		if is && m.behind(changes{c}).cost() > most && rnd.Intn(2) == 0 {
			c, is = randomPair(rnd, most-m.cost())
		}
		if !is || rnd.Intn(8) == 0 || m.behind(changes{c}).cost() > most {
			c = gone(randomKey(rnd, m))
		}
		if refuse(append(slices.Clone(l), c)) != api.OK {
			break
		}
		l = append(l, c)
		m.do(c)
	}
	return l
}

// randomKey is one of those that are there, if some are, or now and then another one.
func randomKey(rnd *rand.Rand, m plain) string {
	l := m.list("")
	if len(l) == 0 || rnd.Intn(8) == 0 {
		return "none"
	}
	return string(l[rnd.Intn(len(l))].Key)
}

// P9.5: as long as the pairs cost no more than they may, there is room, Apply behind Apply.
func TestRoomForWhatThereIs(t *testing.T) {
	takesSeconds(t)
	for _, segments := range []int{4, 5, 6, 7, 8, 9, 10, 12, 15, 16, 17, 20, 25, 40} {
		t.Run(fmt.Sprint(segments), func(t *testing.T) {
			t.Parallel()
			for seed := range int64(4) {
				rnd := rand.New(rand.NewSource(seed))
				p, s := fresh(t, segments)
				m := plain{}
				full, laid := 0, 0
				for laid < 64*segments*12 {
					l := randomChanges(rnd, m, most(segments))
					do(t, s, l...)
					m.do(l...)
					laid += groupCost(l)
					if m.cost() == most(segments) {
						full++
					}
					if rnd.Intn(10) == 0 {
						s = open(t, p, 0)
					}
					if rnd.Intn(10) == 0 {
						expect(t, s, m)
					}
				}
				expect(t, s, m)
				if full < 10 {
					t.Errorf("only %d times the pairs cost as much as they may", full)
				}
			}
		})
	}
}

// P9.5: pairs that cost all that they may, and are the oldest ones of the log, the newest ones, or lie between what is no more; set anew by the greatest groups, by the least, and by those of one cost.
func TestRoomAtTheBound(t *testing.T) {
	for segments := 5; segments <= 24; segments++ {
		for _, cost := range []int{1, 2, 3, 9, 27} {
			for _, great := range []int{1, 3, 16} {
				p, s := fresh(t, segments)
				m := plain{}
				var keys []string
				for i := 0; m.cost()+cost <= most(segments); i++ {
					key := fmt.Sprint(i)
					keys = append(keys, key)
					c := set(key, strings.Repeat(key[:1], min(sizeOfCost(cost)-len(key), api.MaxValue)))
					do(t, s, c)
					m.do(c)
				}
				for i := 0; len(keys) > 0 && i < 8*segments; i++ {
					var l changes
					for j := range great {
						key := keys[(i+j)*(i+j)%len(keys)*(i/50%2)] // the same one for long, then all
						c := set(key, m[key])
						if refuse(append(slices.Clone(l), c)) == api.OK {
							l = append(l, c)
						}
					}
					do(t, s, l...)
				}
				expect(t, s, m)
				expect(t, open(t, p, 0), m)
			}
		}
	}
}

// P9.5: of no pairs at all there is room for ever, on the smallest disk too: for what takes away what was not there.
func TestRoomOfNothing(t *testing.T) {
	p, s := fresh(t, 4)
	var l changes
	for i := range 16 {
		l = append(l, gone(strings.Repeat(fmt.Sprint(i%10), 32)))
	}
	for i := range 300 {
		do(t, s, l[:i%17]...)
		if i%50 == 0 {
			s = open(t, p, 0)
		}
	}
	expect(t, s, plain{})
}

// newKeys are changes of one cost, whose keys no other number's have.
func newKeys(cost, no int) changes {
	count := 1
	if cost > 25 { // more than one record may have
		count = 16
	}
	size := min(40*cost-1-2*count, api.MaxPayload)
	l := make(changes, count)
	for i := range l {
		n := size / count
		if i < size%count {
			n++
		}
		key := string([]byte{byte(no >> 8), byte(no), byte(i)})
		l[i] = set(key, strings.Repeat(string([]byte{byte(no + i)}), n-4-len(key)))
	}
	return l
}

func TestNewKeys(t *testing.T) {
	for cost := 1; cost <= 53; cost++ {
		l := newKeys(cost, cost)
		if groupCost(l) != cost || refuse(l) != api.OK {
			t.Errorf("a group of %d, want %d: %v", groupCost(l), cost, refuse(l))
		}
	}
}

// P9.5: as long as no key was set twice, or taken away, there is room for just what the log promises; of groups of one cost as of those of all costs up to it.
func TestRoomWithoutAKeySetTwice(t *testing.T) {
	for _, segments := range []int{4, 5, 7, 12} {
		for cost := 1; cost <= 53; cost++ {
			rnd := rand.New(rand.NewSource(int64(cost)))
			for mode := range 3 {
				p, s := fresh(t, segments)
				m := plain{}
				room, greatest := (65-cost)*(segments-2), cost
				for no := 0; room > 0; no++ {
					n := cost
					if mode > 0 && no > 0 {
						n = 1 + rnd.Intn(cost)
					}
					n = min(n, room)
					l := newKeys(n, no)
					if e := s.Apply(l); e != api.OK {
						t.Fatalf("%d segments, groups of %d at most: %v, with room for %d", segments, greatest, e, room)
					}
					m.do(l...)
					room -= n
					if mode == 2 && rnd.Intn(20) == 0 {
						compact(t, s)
						do(t, s)
						s = open(t, p, 0)
					}
				}
				expect(t, s, m)
				expect(t, open(t, p, 0), m)
			}
		}
	}
}

// P9.5: a store that is filled till there is no room: nothing is lost by that, and what was refused is not there.
func TestFull(t *testing.T) {
	for _, cost := range []int{1, 7, 32, 33, 53} {
		p, s := fresh(t, 5)
		m := plain{}
		e := api.OK
		for no := 0; e == api.OK; no++ {
			l := newKeys(cost, no)
			if e = s.Apply(l); e == api.OK {
				m.do(l...)
			}
		}
		refused(t, e, api.ErrFull, "Apply")
		steps := p.Steps()
		for range 3 {
			refused(t, s.Apply(newKeys(cost, 5000)), api.ErrFull, "Apply")
		}
		if p.Steps() != steps {
			t.Errorf("%d steps", p.Steps()-steps)
		}
		expect(t, s, m)
		refused(t, s.Apply(make(changes, 17)), api.ErrLong, "17 changes")
		refused(t, s.Apply(changes{set("", "")}), api.ErrKey, "no key")
		compact(t, s)
		expect(t, s, m)
		expect(t, open(t, p, 0), m)
	}
}

// P9.4, P9.5: stores that have more than there must be room for: whatever was refused, Compact has room, nothing is lost, and while the pairs cost no more than they may there is room.
func TestBeyondTheBound(t *testing.T) {
	takesSeconds(t)
	for seed := range int64(60) {
		t.Run(fmt.Sprint(seed), func(t *testing.T) {
			t.Parallel()
			fillByChance(t, rand.New(rand.NewSource(seed)))
		})
	}
}

func fillByChance(t *testing.T, rnd *rand.Rand) {
	segments := 5 + rnd.Intn(6)
	p, s := fresh(t, segments)
	m := plain{}
	above := 0
	for i := range 300 {
		if i%30 == 0 {
			above = most(segments) + rnd.Intn(8)*rnd.Intn(8)*segments
		}
		l := manyChanges(rnd, m, above)
		e := s.Apply(l)
		switch {
		case e == api.OK:
			m.do(l...)
		case e != api.ErrFull || m.cost() <= most(segments):
			t.Fatalf("%d segments: %v, pairs of %d", segments, e, m.cost())
		}
		if s.log.Room() < 1 && s.dead > 0 {
			t.Fatal("no segment is left to compact with")
		}
		if rnd.Intn(20) == 0 {
			compact(t, s)
		}
		if rnd.Intn(10) == 0 {
			s = open(t, p, 0)
			expect(t, s, m)
		}
	}
	expect(t, s, m)
}

// manyChanges are of many keys, whose pairs cost up to so much together.
func manyChanges(rnd *rand.Rand, m plain, above int) changes {
	var l changes
	left := above - m.cost()
	for range 1 + rnd.Intn(16) {
		c := set(fmt.Sprint("key", rnd.Intn(200)), strings.Repeat("v", rnd.Intn(1+rnd.Intn(1000))))
		if left -= groupCost(changes{c}); left < 0 {
			c = gone(randomKey(rnd, m))
		}
		if refuse(append(slices.Clone(l), c)) == api.OK {
			l = append(l, c)
		}
	}
	return l
}

// P9.3, P9.5: the greatest disk that there may be.
func TestAGreatStore(t *testing.T) {
	p, s := fresh(t, 1023)
	m := plain{}
	for no := range 3000 {
		l := newKeys(20, no)
		if no%3 == 0 {
			l = newKeys(3, no%200)
		}
		if m.behind(l).cost() > most(1023) {
			l = changes{gone(string(m.list("")[0].Key))}
		}
		do(t, s, l...)
		m.do(l...)
	}
	expect(t, s, m)
	s = open(t, p, 0)
	expect(t, s, m)
	compact(t, s)
	expect(t, open(t, p, 0), m)
}
