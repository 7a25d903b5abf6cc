package store

import (
	"fmt"
	"math/rand"
	"slices"
	"testing"

	"groat/api"
	"groat/plant"
)

// keeps are ways to keep what waits: nothing, all, first halves, last halves, and by turns.
var keeps = [][]int{
	{0}, {1}, {2}, {3}, {1, 0}, {0, 1}, {2, 3}, {3, 2}, {1, 1, 0}, {0, 0, 1}, {1, 2, 3, 0}, {3, 1, 0, 2, 1}, {0, 2, 0, 3},
}

func randomKeep(rnd *rand.Rand) []int {
	if rnd.Intn(2) == 0 {
		return keeps[rnd.Intn(len(keeps))]
	}
	keep := make([]int, 1+rnd.Intn(60))
	odd := rnd.Intn(4) // mostly kept, so that but little is missing
	for i := range keep {
		if keep[i] = 1; rnd.Intn(10) < odd {
			keep[i] = rnd.Intn(4)
		}
	}
	return keep
}

// crash lets the power go off behind so many steps of an act, and boots. It tells whether it went off at all; and the act's error, if not.
func crash(p *plant.Plant, steps int, keep []int, act func() api.Errno) (bool, api.Errno) {
	p.Fuse(steps)
	e := act()
	if e == api.ErrPower {
		p.Boot(keep)
		return true, api.OK
	}
	p.Fuse(-1)
	return false, e
}

// act is one of a script on a store that there is, or is not (nil), and what it makes of the plain one.
type act struct {
	name  string
	do    func(p *plant.Plant, s *Store) (*Store, api.Errno)
	plain func(m plain) plain // none where there is no store
}

func actFormat() act {
	return act{"Format",
		func(p *plant.Plant, s *Store) (*Store, api.Errno) { return nil, Format(p, 0) },
		func(m plain) plain { return plain{} }}
}

func actOpen() act {
	return act{"Open",
		func(p *plant.Plant, s *Store) (*Store, api.Errno) { return Open(p, 0) },
		func(m plain) plain { return m }}
}

func actApply(l changes) act {
	return act{"Apply",
		func(p *plant.Plant, s *Store) (*Store, api.Errno) { return s, s.Apply(l) },
		func(m plain) plain { return m.behind(l) }}
}

func actCompact() act {
	return act{"Compact",
		func(p *plant.Plant, s *Store) (*Store, api.Errno) { return s, s.Compact() },
		func(m plain) plain { return m }}
}

// script goes round the segments of a small disk, with pairs that cost as much as they may; it formats what was used.
func script(rnd *rand.Rand, segments, acts int) []act {
	l := []act{actFormat(), actOpen()}
	m := plain{}
	for len(l) < acts {
		switch n := rnd.Intn(20); {
		case n == 0 && rnd.Intn(4) == 0:
			l = append(l, actFormat(), actOpen())
			m = plain{}
		case n == 1:
			l = append(l, actOpen())
		case n == 2:
			l = append(l, actCompact())
		default:
			c := randomChanges(rnd, m, most(segments))
			for n > 9 && groupCost(c) < 20 {
				c = randomChanges(rnd, m, most(segments))
			}
			m.do(c...)
			l = append(l, actApply(c))
		}
	}
	return append(l, actFormat(), actOpen())
}

// found opens a store behind a crash in an act, and tells which of the two plain ones it is: as it was, or as it would be; nil, if there is none, which only Format may leave.
func found(t *testing.T, p *plant.Plant, a act, was, is plain) (*Store, plain) {
	t.Helper()
	s, e := Open(p, 0)
	if e == api.ErrCorrupt && (a.name == "Format" || was == nil) {
		return nil, nil
	}
	if e != api.OK {
		t.Fatalf("Open behind a crash in %s: %v", a.name, e)
	}
	for _, m := range []plain{is, was} {
		if m != nil && differs(s, m) == "" {
			return s, m
		}
	}
	t.Fatalf("Open behind a crash in %s tells %d keys; ahead of it: %s; behind it: %s", a.name, s.Len(), differs(s, was), differs(s, is))
	return nil, nil
}

// play plays acts on a store that is opened on a disk, with a crash behind so many steps of the first one, and one more behind so many of the Open that comes then. It tells whether there was a crash.
func play(t *testing.T, p *plant.Plant, m plain, l []act, steps, again int, keep []int) bool {
	t.Helper()
	var s *Store
	if m != nil {
		s = open(t, p, 0)
	}
	is := l[0].plain(m)
	crashed, e := crash(p, steps, keep, func() api.Errno { _, e := l[0].do(p, s); return e })
	if !crashed {
		if e != api.OK {
			t.Fatalf("%s: %v", l[0].name, e)
		}
		return false
	}
	crash(p, again, keep, func() api.Errno { _, e := Open(p, 0); return e })
	s, m = found(t, p, l[0], m, is)
	if m == nil {
		return true
	}
	for i, a := range l { // the first one once more: it comes to the same
		if s, e = a.do(p, s); e != api.OK {
			t.Fatalf("%s, %d behind a crash in %s: %v", a.name, i, l[0].name, e)
		}
		m = a.plain(m)
		if s != nil {
			expect(t, s, m)
		}
	}
	if s, e := Open(p, 0); e != api.OK || differs(s, m) != "" {
		t.Fatalf("the end: %v %s", e, differs(s, m))
	}
	return true
}

// P9.6: a crash at each step of each act, whatever is kept, and one more within the Open behind it: the changes are there, or not; and there is room for what comes then.
func TestACrashAtEachStep(t *testing.T) {
	takesSeconds(t)
	const segments = 5
	l := script(rand.New(rand.NewSource(6)), segments, 50)
	p := disks(t, sectors(segments))
	var s *Store
	var m plain
	compacting := 0
	for at, a := range l {
		ahead, was := p.Clone(), m
		first := 0
		if s != nil {
			first = s.log.First()
		}
		var e api.Errno
		if s, e = a.do(p, s); e != api.OK {
			t.Fatalf("%s, act %d: %v", a.name, at, e)
		}
		if a.name == "Apply" && s.log.First() > first {
			compacting++
		}
		m = a.plain(m)
		t.Run(fmt.Sprint(at, a.name), func(t *testing.T) {
			t.Parallel()
			for i, keep := range keeps {
				for steps := 0; play(t, ahead.Clone(), was, l[at:min(at+6, len(l))], steps, i%3, keep); steps++ {
				}
			}
		})
	}
	if compacting < 3 {
		t.Errorf("only %d Applies had to compact", compacting)
	}
}

// P9.3, P9.4: what was answered is there for good: a boot that keeps nothing, or anything, takes nothing of it.
func TestForGood(t *testing.T) {
	for i, keep := range keeps {
		segments := 5 + i%4
		p := disks(t, sectors(segments))
		var s *Store
		var m plain
		for j, a := range script(rand.New(rand.NewSource(int64(i))), segments, 60) {
			if a.name == "Open" && s != nil {
				continue
			}
			var e api.Errno
			if s, e = a.do(p, s); e != api.OK {
				t.Fatalf("%s, act %d: %v", a.name, j, e)
			}
			m = a.plain(m)
			p.Boot(keep)
			s = open(t, p, 0)
			expect(t, s, m)
		}
	}
}

// P9.5, P9.6: long runs at the bound, with crashes by chance, often many within one compacting: there is always room.
func TestCrashesByChance(t *testing.T) {
	takesSeconds(t)
	for seed := range int64(32) {
		t.Run(fmt.Sprint(seed), func(t *testing.T) {
			t.Parallel()
			segments := 5 + int(seed%8)
			rnd := rand.New(rand.NewSource(seed))
			p, s := fresh(t, segments)
			m := plain{}
			crashes := 0
			for range 400 {
				a := actCompact()
				if rnd.Intn(6) > 0 {
					a = actApply(randomChanges(rnd, m, most(segments)))
				}
				n := crashMuch(t, rnd, p, &s, a, &m)
				crashes += n
			}
			if crashes < 200 {
				t.Errorf("only %d crashes", crashes)
			}
		})
	}
}

// crashMuch does an act with crashes till it is answered; it tells how many there were.
func crashMuch(t *testing.T, rnd *rand.Rand, p *plant.Plant, s **Store, a act, m *plain) int {
	t.Helper()
	is := a.plain(*m)
	for n := 0; ; n++ {
		steps := rnd.Intn(6)
		if rnd.Intn(2) == 0 {
			steps = rnd.Intn(80)
		}
		crashed, e := crash(p, steps+4*n, randomKeep(rnd), func() api.Errno { _, e := a.do(p, *s); return e })
		if !crashed {
			if e != api.OK {
				t.Fatalf("%s behind %d crashes: %v", a.name, n, e)
			}
			*m = is
			if rnd.Intn(8) == 0 {
				expect(t, *s, *m)
			}
			return n
		}
		for range rnd.Intn(3) {
			crash(p, rnd.Intn(3), randomKeep(rnd), func() api.Errno { _, e := Open(p, 0); return e })
		}
		*s, *m = found(t, p, a, *m, is)
	}
}

// P9.4, P9.6: crashes within compacting, again and again, in stores that have but one free segment: each goes on where the last one was cut off, and it comes to its end.
func TestCrashesOfCompact(t *testing.T) {
	takesSeconds(t)
	for seed := range int64(16) {
		t.Run(fmt.Sprint(seed), func(t *testing.T) {
			t.Parallel()
			rnd := rand.New(rand.NewSource(seed))
			p, m := crowded(t, rnd, 4+int(seed%4), 60+30*int(seed%5))
			for _, steps := range []int{0, 1, 2, 3, 5, 8, 13, 21, 34, 55, 89} {
				compactByBits(t, rnd, p.Clone(), m, steps)
			}
		})
	}
}

// crowded is the disk of a store that has one free segment, and something that is no more.
func crowded(t *testing.T, rnd *rand.Rand, segments, above int) (*plant.Plant, plain) {
	t.Helper()
	for {
		p, s := fresh(t, segments)
		m := plain{}
		for s.log.Room() > 1 {
			l := manyChanges(rnd, m, above)
			do(t, s, l...)
			m.do(l...)
		}
		if s.dead > 0 {
			return p, m
		}
	}
}

// compactByBits compacts with a crash behind so many steps each time, and some more as time goes by.
func compactByBits(t *testing.T, rnd *rand.Rand, p *plant.Plant, m plain, steps int) {
	t.Helper()
	s := open(t, p, 0)
	for n := 0; ; n++ {
		crashed, e := crash(p, steps+n/4, randomKeep(rnd), s.Compact)
		if !crashed {
			if e != api.OK {
				t.Fatalf("Compact behind %d crashes: %v", n, e)
			}
			break
		}
		s = open(t, p, 0)
		if n%5 == 0 {
			expect(t, s, m)
		}
	}
	expectAllLive(t, s)
	expect(t, s, m)
	expect(t, open(t, p, 0), m)
}

// P9.6: behind a crash in Format there is what was there ahead, and from some step on ErrCorrupt. (If the crash is at the last step, and all is kept, the disk is as if Format had been answered.)
func TestCrashesOfFormat(t *testing.T) {
	rnd := rand.New(rand.NewSource(3))
	old, s := fresh(t, 5)
	m := plain{}
	for range 60 {
		l := append(randomChanges(rnd, m, most(5))[:1], set("there", "x"))
		do(t, s, l...)
		m.do(l...)
	}
	done := old.Clone()
	format(t, done, 0)
	total := done.Steps() - old.Steps()
	for _, keep := range keeps {
		gone := false
		for steps := range total {
			p := old.Clone()
			if crashed, _ := crash(p, steps, keep, func() api.Errno { return Format(p, 0) }); !crashed {
				t.Fatalf("no crash %d steps behind", steps)
			}
			s, e := Open(p, 0)
			switch {
			case e == api.ErrCorrupt:
				gone = true
			case e != api.OK:
				t.Fatalf("keep %v, %d steps behind: %v", keep, steps, e)
			case steps == total-1 && keep[0] == 1:
				expect(t, s, plain{})
			case gone:
				t.Fatalf("keep %v, %d steps behind: a store", keep, steps)
			default:
				expect(t, s, m)
			}
			format(t, p, 0)
			expect(t, open(t, p, 0), plain{})
		}
		if !gone {
			t.Errorf("keep %v: there was a store at each step", keep)
		}
	}
}

// P9.6: an Apply that was cut off takes no room: however often it comes again, there is as much as ever.
func TestCrashesTakeNoRoom(t *testing.T) {
	for _, cost := range []int{1, 12, 33, 53} {
		for _, keep := range keeps[:4] {
			p, s := fresh(t, 4)
			m := plain{}
			no := 0
			for room := 2 * (65 - cost); room >= cost; room -= cost {
				l := newKeys(cost, no)
				for steps := range cost + 1 {
					crashed, _ := crash(p, steps, keep, func() api.Errno { return s.Apply(l) })
					if !crashed {
						t.Fatalf("cost %d: no crash %d steps behind", cost, steps)
					}
					if s = open(t, p, 0); s.Len() > len(m) {
						break // all was kept
					}
				}
				if s.Len() == len(m) {
					do(t, s, l...)
				}
				m.do(l...)
				expect(t, s, m)
				no++
			}
		}
	}
}

// P9.6: values may be such as the store itself lays down, or the log: whole groups of it, and its headers.
func TestValuesLikeTheStoresOwn(t *testing.T) {
	twin, s := fresh(t, 5)
	for no := range 3 {
		do(t, s, newKeys(2, no)...)
	}
	compact(t, s)
	do(t, s, set("a", string(pack(gone("a")))))
	var image []byte
	for place := range 16 {
		b, _ := twin.Read(0, place)
		image = append(image, b...)
	}
	for shift := range api.SectorSize {
		l := changes{set("a", string(slices.Concat(make([]byte, shift), image[2*api.SectorSize:][:900]))), set("b", string(image[:900]))}
		for i, keep := range keeps {
			p, s := fresh(t, 24)
			do(t, s, set("a", "1"))
			m := plain{"a": "1"}
			crash(p, (7*shift+5*i)%60, keep, func() api.Errno { return s.Apply(l) })
			s, m = found(t, p, actApply(l), m, m.behind(l))
			do(t, s, l...)
			m.do(l...)
			crash(p, (5*shift+7*i)%60, keep, func() api.Errno { return s.Compact() })
			s, _ = found(t, p, actCompact(), m, m)
			compact(t, s)
			expect(t, open(t, p, 0), m)
		}
	}
}
