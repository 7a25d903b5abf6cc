package wal

import (
	"bytes"
	"fmt"
	"math"
	"math/rand"
	"slices"
	"testing"

	"groat/api"
	"groat/plant"
)

const small = least // sectors of the smallest disk that a log may be on: four segments

type records = [][]byte

func disks(t *testing.T, sectors ...int) *plant.Plant {
	t.Helper()
	p, e := plant.New(sectors)
	if e != api.OK {
		t.Fatalf("plant.New(%v): %v", sectors, e)
	}
	return p
}

func format(t *testing.T, p *plant.Plant, dev int) {
	t.Helper()
	if e := Format(p, dev); e != api.OK {
		t.Fatalf("Format(%d): %v", dev, e)
	}
}

func open(t *testing.T, p *plant.Plant, dev int) *Wal {
	t.Helper()
	w, e := Open(p, dev)
	if e != api.OK || w == nil {
		t.Fatalf("Open(%d): %v", dev, e)
	}
	return w
}

// fresh is a log on a new disk of so many sectors.
func fresh(t *testing.T, sectors int) (*plant.Plant, *Wal) {
	t.Helper()
	p := disks(t, sectors)
	format(t, p, 0)
	return p, open(t, p, 0)
}

func lay(t *testing.T, w *Wal, l records) {
	t.Helper()
	want := w.Next()
	if no, e := w.Append(l); no != want || e != api.OK {
		t.Fatalf("Append of %d records: %d %v, want %d", len(l), no, e, want)
	}
}

func cutTo(t *testing.T, w *Wal, no int) {
	t.Helper()
	if e := w.Cut(no); e != api.OK {
		t.Fatalf("Cut(%d) of %d to %d: %v", no, w.First(), w.Next(), e)
	}
}

func refused(t *testing.T, e, want api.Errno, what string) {
	t.Helper()
	if e != want {
		t.Errorf("%s: %v, want %v", what, e, want)
	}
}

// write are texts as records.
func write(texts ...string) records {
	var l records
	for _, s := range texts {
		l = append(l, []byte(s))
	}
	return l
}

// ofCost is a group that takes just so many sectors, all full where MaxPayload lets them be, whose records tell its number.
func ofCost(cost, no int) records {
	n := 40*cost - 1 - 2
	if n <= api.MaxPayload {
		return records{numbered(n, no)}
	}
	l := slices.Repeat(records{nil}, api.MaxRecords)
	l[7] = numbered(min(40*cost-1-2*len(l), api.MaxPayload), no)
	return l
}

func numbered(n, no int) []byte {
	b := bytes.Repeat([]byte{byte(no), byte(no >> 8), 0, 0xff}, n/4+1)
	return b[:n]
}

func alikeGroups(a, b records) bool { return slices.EqualFunc(a, b, bytes.Equal) }

// expect holds all that a log tells, but its room, against its groups from first on.
func expect(t *testing.T, w *Wal, first int, want ...records) {
	t.Helper()
	if w.First() != first || w.Next() != first+len(want) {
		t.Fatalf("groups %d to %d, want %d to %d", w.First(), w.Next(), first, first+len(want))
	}
	for i, l := range want {
		if got, e := w.Read(first + i); e != api.OK || !alikeGroups(got, l) {
			t.Fatalf("Read(%d): %x %v, want %x", first+i, got, e, l)
		}
	}
	for _, no := range []int{first - 1, first + len(want), -1 - first, math.MaxInt, math.MinInt} {
		if no >= first && no < first+len(want) {
			continue
		}
		if l, e := w.Read(no); len(l) != 0 || e != api.ErrArg {
			t.Fatalf("Read(%d) of %d to %d: %x %v, want ErrArg", no, first, first+len(want), l, e)
		}
	}
}

func expectRoom(t *testing.T, w *Wal, want int) {
	t.Helper()
	if n := w.Room(); n != want {
		t.Fatalf("Room: %d, want %d", n, want)
	}
}

// P7.1 to P7.6: the chapter's examples.
func TestExamples(t *testing.T) {
	p := disks(t, 322)
	if w, e := Open(p, 0); w != nil || e != api.ErrCorrupt {
		t.Fatalf("Open of a new disk: %v %v", w, e)
	}
	format(t, p, 0)
	w := open(t, p, 0)
	expect(t, w, 0)
	expectRoom(t, w, 4)
	ab := write("a", "b")
	lay(t, w, ab)
	lay(t, w, nil)
	expect(t, w, 0, ab, nil)
	cutTo(t, w, 1)
	expect(t, w, 1, nil)
	w = open(t, p, 0)
	expect(t, w, 1, nil)
	_, e := w.Append(make(records, 17))
	refused(t, e, api.ErrLong, "17 records")
	_, e = w.Append(records{make([]byte, 1025), make([]byte, 1025)})
	refused(t, e, api.ErrLong, "2050 bytes")
	p.Fuse(0)
	no, e := w.Append(write("c"))
	if no != 0 || e != api.ErrPower {
		t.Errorf("Append as the power goes off: %d %v", no, e)
	}
	p.Boot(nil)
	expect(t, open(t, p, 0), 1, nil)
}

// P7.1, P7.2: disks that are none, or too small; how many segments a disk has.
func TestDisks(t *testing.T) {
	p := disks(t, 257, 1, 64, 258)
	for _, dev := range []int{0, 1, 2, 4, 5, -1, math.MaxInt, math.MinInt} {
		refused(t, Format(p, dev), api.ErrArg, fmt.Sprint("Format ", dev))
		w, e := Open(p, dev)
		refused(t, e, api.ErrArg, fmt.Sprint("Open ", dev))
		if w != nil {
			t.Errorf("Open %d: a log beside an error", dev)
		}
	}
	if p.Steps() != 0 {
		t.Errorf("%d steps were done", p.Steps())
	}
	for _, x := range []struct{ sectors, segments int }{
		{258, 4}, {259, 4}, {321, 4}, {322, 5}, {385, 5}, {386, 6}, {65473, 1022}, {65474, 1023}, {65536, 1023},
	} {
		_, w := fresh(t, x.sectors)
		expectRoom(t, w, x.segments-1)
	}
}

// P7.1, P7.2: ErrArg stands ahead of ErrPower, and that ahead of ErrCorrupt (R3).
func TestErrorsWithThePowerOff(t *testing.T) {
	for _, formatted := range []bool{false, true} {
		p := disks(t, small, 7)
		if formatted {
			format(t, p, 0)
		}
		p.Fuse(0)
		p.Flush(0)
		for _, dev := range []int{-1, 1, 2} {
			refused(t, Format(p, dev), api.ErrArg, "Format of no disk")
			_, e := Open(p, dev)
			refused(t, e, api.ErrArg, "Open of no disk")
		}
		refused(t, Format(p, 0), api.ErrPower, "Format")
		w, e := Open(p, 0)
		refused(t, e, api.ErrPower, "Open")
		if w != nil {
			t.Error("a log beside an error")
		}
	}
}

// P7.3, P7.4: with the power off what is wrong with the arguments is told first, and else ErrPower; nothing changes.
func TestCallsWithThePowerOff(t *testing.T) {
	for _, x := range []struct {
		what string
		call func(w *Wal) api.Errno
		want api.Errno
	}{
		{"Append", func(w *Wal) api.Errno { _, e := w.Append(write("x")); return e }, api.ErrPower},
		{"Append of a long group", func(w *Wal) api.Errno { _, e := w.Append(make(records, 17)); return e }, api.ErrLong},
		{"Append without room", func(w *Wal) api.Errno { _, e := w.Append(ofCost(53, 1)); return e }, api.ErrFull},
		{"Read", func(w *Wal) api.Errno { _, e := w.Read(2); return e }, api.ErrPower},
		{"Read of none", func(w *Wal) api.Errno { _, e := w.Read(1); return e }, api.ErrArg},
		{"Cut", func(w *Wal) api.Errno { return w.Cut(3) }, api.ErrPower},
		{"Cut to none", func(w *Wal) api.Errno { return w.Cut(1) }, api.ErrArg},
		{"Cut past all", func(w *Wal) api.Errno { return w.Cut(7) }, api.ErrArg},
	} {
		p, w := fresh(t, small)
		var want []records
		for no := range 6 {
			want = append(want, ofCost(40, no))
			if no == 2 {
				cutTo(t, w, 2)
			}
			lay(t, w, want[no])
		}
		p.Fuse(0)
		p.Flush(0)
		refused(t, x.call(w), x.want, x.what)
		p.Boot([]int{1})
		expect(t, open(t, p, 0), 2, want[2:]...)
	}
}

// P7.3: groups of all numbers of records, and of all lengths, are read as they were, by the log that took them and by one that is opened anew.
func TestGroupsAreReadAsTheyWere(t *testing.T) {
	rnd := rand.New(rand.NewSource(1))
	var want []records
	add := func(lengths ...int) {
		var l records
		for _, n := range lengths {
			b := make([]byte, n)
			rnd.Read(b)
			l = append(l, b)
		}
		want = append(want, l)
	}
	for n := range 130 {
		add(n)
	}
	for n := range 17 {
		add(make([]int, n)...)
		add(slices.Repeat([]int{1}, n)...)
		add(slices.Repeat([]int{128}, n)...)
	}
	add(2048)
	add(2047, 1)
	add(0, 2048, 0)
	add(1024, 0, 1024)
	add(255, 256, 257, 511, 512, 1)
	p, w := fresh(t, 65536)
	for _, l := range want {
		lay(t, w, l)
	}
	expect(t, w, 0, want...)
	expect(t, open(t, p, 0), 0, want...)
	p.Boot(nil)
	expect(t, open(t, p, 0), 0, want...)
}

// P7.3: what is long, and what is just not; nothing changes by it.
func TestLong(t *testing.T) {
	p, w := fresh(t, small)
	lay(t, w, write("x"))
	steps := p.Steps()
	for _, l := range []records{
		make(records, 17), make(records, 100000), {make([]byte, 2049)}, {make([]byte, 1<<20)},
		{make([]byte, 2048), {1}}, {{1}, make([]byte, 2048)}, append(slices.Repeat(records{make([]byte, 128)}, 15), make([]byte, 129)),
		append(make(records, 16), []byte{1}),
	} {
		no, e := w.Append(l)
		if no != 0 || e != api.ErrLong {
			t.Errorf("Append of %d records: %d %v", len(l), no, e)
		}
	}
	if p.Steps() != steps {
		t.Error("steps were done")
	}
	sixteen := slices.Repeat(records{bytes.Repeat([]byte{7}, 128)}, 16)
	lay(t, w, sixteen)
	expect(t, w, 0, write("x"), sixteen)
}

// P7.3: what is long is told ahead of that there is no room.
func TestLongAheadOfFull(t *testing.T) {
	_, w := fresh(t, small)
	for range 4 {
		lay(t, w, ofCost(53, 1))
	}
	_, e := w.Append(ofCost(53, 1))
	refused(t, e, api.ErrFull, "a group without room")
	_, e = w.Append(make(records, 17))
	refused(t, e, api.ErrLong, "a long group without room")
}

// P7.3: numbers begin at 0 and go on by one, whatever was cut; none comes again.
func TestNumbers(t *testing.T) {
	p, w := fresh(t, small)
	for no := range 500 {
		if w.Next() != no {
			t.Fatalf("Next: %d, want %d", w.Next(), no)
		}
		lay(t, w, ofCost(no%5+1, no))
		if no%3 == 0 {
			cutTo(t, w, no+1)
			expect(t, w, no+1)
		}
		if no%7 == 0 {
			w = open(t, p, 0)
		}
	}
	cutTo(t, w, 500)
	w = open(t, p, 0)
	expect(t, w, 500)
	format(t, p, 0)
	expect(t, open(t, p, 0), 0)
}

// P7.4: Cut to each number, and what is none; First is for good.
func TestCut(t *testing.T) {
	for first := range 6 {
		for no := -2; no < 9; no++ {
			p, w := fresh(t, small)
			var want []records
			for i := range 6 {
				want = append(want, ofCost(i+1, i))
				lay(t, w, want[i])
			}
			cutTo(t, w, first)
			steps := p.Steps()
			e := w.Cut(no)
			if no < first || no > 6 {
				refused(t, e, api.ErrArg, fmt.Sprintf("Cut(%d) of %d to 6", no, first))
				if p.Steps() != steps {
					t.Error("steps were done")
				}
				expect(t, w, first, want[first:]...)
				expect(t, open(t, p, 0), first, want[first:]...)
				continue
			}
			refused(t, e, api.OK, "Cut")
			expect(t, w, no, want[no:]...)
			p.Boot(nil)
			expect(t, open(t, p, 0), no, want[no:]...)
		}
	}
	_, w := fresh(t, small)
	for _, no := range []int{-1, 1, math.MaxInt, math.MinInt} {
		refused(t, w.Cut(no), api.ErrArg, fmt.Sprintf("Cut(%d) of none", no))
	}
	refused(t, w.Cut(0), api.OK, "Cut(0) of none")
	expect(t, w, 0)
}

// P7.4, P7.5: segments come free as the last of their groups is cut, but for the one at hand.
func TestCutFreesSegments(t *testing.T) {
	p, w := fresh(t, 2+6*64)
	for no := range 10 { // two in a segment
		lay(t, w, ofCost(32, no))
		expectRoom(t, w, 5-no/2)
	}
	for no, room := range []int{1, 1, 2, 2, 3, 3, 4, 4, 5, 5, 5} {
		cutTo(t, w, no)
		expectRoom(t, w, room)
	}
	w = open(t, p, 0)
	expectRoom(t, w, 5)
	lay(t, w, ofCost(53, 10))
	expectRoom(t, w, 5)
	lay(t, w, ofCost(12, 11))
	expectRoom(t, w, 4)
	cutTo(t, w, 11)
	expectRoom(t, w, 5)
	lay(t, w, ofCost(52, 12))
	expectRoom(t, w, 5)
	lay(t, w, nil)
	expectRoom(t, w, 4)
	expectRoom(t, open(t, p, 0), 4)
}

// P7.4: the segment at hand is not free, though all its groups are cut, and what is appended goes behind them.
func TestTheSegmentAtHand(t *testing.T) {
	_, w := fresh(t, small)
	lay(t, w, ofCost(40, 0))
	cutTo(t, w, 1)
	expectRoom(t, w, 3)
	lay(t, w, ofCost(24, 1))
	expectRoom(t, w, 3)
	cutTo(t, w, 2)
	expectRoom(t, w, 3)
	lay(t, w, nil)
	expectRoom(t, w, 3)
	lay(t, w, ofCost(53, 3))
	lay(t, w, ofCost(11, 4))
	expectRoom(t, w, 2)
}

// P7.3, P7.5: a group's cost is how many sectors it takes, to the byte.
func TestCosts(t *testing.T) {
	for _, x := range []struct {
		l    records
		cost int
	}{
		{nil, 1},
		{records{nil}, 1},
		{records{make([]byte, 1)}, 1},
		{records{make([]byte, 37)}, 1},
		{records{make([]byte, 38)}, 2},
		{records{make([]byte, 77)}, 2},
		{records{make([]byte, 78)}, 3},
		{records{make([]byte, 117)}, 3},
		{records{make([]byte, 118)}, 4},
		{make(records, 16), 1},
		{append(make(records, 15), make([]byte, 7)), 1},
		{append(make(records, 15), make([]byte, 8)), 2},
		{append(make(records, 15), make([]byte, 47)), 2},
		{append(make(records, 15), make([]byte, 48)), 3},
		{records{make([]byte, 17), make([]byte, 18)}, 1},
		{records{make([]byte, 18), make([]byte, 18)}, 2},
		{records{make([]byte, 2037)}, 51},
		{records{make([]byte, 2038)}, 52},
		{records{make([]byte, 2048)}, 52},
		{append(make(records, 15), make([]byte, 2047)), 52},
		{append(make(records, 15), make([]byte, 2048)), 53},
	} {
		_, w := fresh(t, small)
		n := 0
		for w.Room() == 3 {
			lay(t, w, x.l)
			n++
		}
		if n != 64/x.cost+1 {
			t.Errorf("%d groups of the cost %d are in a segment", n-1, x.cost)
		}
		for {
			if _, e := w.Append(x.l); e != api.OK {
				refused(t, e, api.ErrFull, "Append")
				break
			}
			n++
		}
		if n != 4*(64/x.cost) {
			t.Errorf("%d groups of the cost %d are in four segments", n, x.cost)
		}
	}
}

// P7.3, P7.5: without room nothing changes; a smaller group may have room yet; and room comes again.
func TestFull(t *testing.T) {
	p, w := fresh(t, small)
	var want []records
	for no := range 4 {
		want = append(want, ofCost(50, no))
		lay(t, w, want[no])
	}
	for range 3 {
		steps := p.Steps()
		no, e := w.Append(ofCost(15, 9))
		if no != 0 || e != api.ErrFull || p.Steps() != steps {
			t.Fatalf("Append without room: %d %v, %d steps", no, e, p.Steps()-steps)
		}
		expectRoom(t, w, 0)
		expect(t, w, 0, want...)
		w = open(t, p, 0)
	}
	want = append(want, ofCost(14, 4))
	lay(t, w, want[4])
	_, e := w.Append(nil)
	refused(t, e, api.ErrFull, "Append to the last sector's end")
	expect(t, w, 0, want...)
	expect(t, open(t, p, 0), 0, want...)
	w = open(t, p, 0)
	cutTo(t, w, 1)
	expectRoom(t, w, 1)
	lay(t, w, ofCost(53, 5))
	expect(t, open(t, p, 0), 1, append(want[1:], ofCost(53, 5))...)
}

// plain is a log in the chapter's words. Its segments are numbered as they are taken; none comes again.
type plain struct {
	segments, first int
	l               []plainGroup
	seg, used       int
	taken           int
}

type plainGroup struct {
	l              records
	cost, seg, end int
}

func (m *plain) clone() *plain {
	c := *m
	c.l = slices.Clone(m.l)
	return &c
}

func (m *plain) open() {
	if len(m.l) == 0 {
		m.taken++
		m.seg, m.used = m.taken, 0
		return
	}
	last := m.l[len(m.l)-1]
	m.seg, m.used = last.seg, last.end
}

func (m *plain) room() int {
	used := map[int]bool{m.seg: true}
	for _, g := range m.l {
		used[g.seg] = true
	}
	return m.segments - len(used)
}

func plainCost(l records) int {
	n := 1
	for _, r := range l {
		n += 2 + len(r)
	}
	return int(math.Ceil(float64(n) / 40))
}

// isPromised tells whether ErrFull may not be answered.
func (m *plain) isPromised(cost int) bool {
	sum, greatest := cost, cost
	for _, g := range m.l {
		sum, greatest = sum+g.cost, max(greatest, g.cost)
	}
	return sum <= (65-greatest)*(m.segments-2)
}

// fits tells whether there is room as groups lie one behind the other.
func (m *plain) fits(cost int) bool { return m.used+cost <= 64 || m.room() > 0 }

func (m *plain) add(l records) {
	cost := plainCost(l)
	if m.used+cost > 64 {
		m.taken++
		m.seg, m.used = m.taken, 0
	}
	m.used += cost
	m.l = append(m.l, plainGroup{l: l, cost: cost, seg: m.seg, end: m.used})
}

func (m *plain) cut(no int) { m.l, m.first = m.l[no-m.first:], no }

// alike tells whether a log that was opened is the plain one.
func (m *plain) alike(w *Wal) bool {
	if w.First() != m.first || w.Next() != m.first+len(m.l) || w.Room() != m.room() {
		return false
	}
	for i, g := range m.l {
		if l, e := w.Read(m.first + i); e != api.OK || !alikeGroups(l, g.l) {
			return false
		}
	}
	return true
}

func randomGroup(rnd *rand.Rand) records {
	most := []int{2, 20, 120, 2048}[rnd.Intn(4)]
	var l records
	for range rnd.Intn(api.MaxRecords + 1) {
		b := make([]byte, rnd.Intn(most+1))
		most -= len(b)
		rnd.Read(b)
		l = append(l, b)
	}
	return l
}

// P7.2 to P7.5: acts by chance, held against the plain log; there is no ErrFull where it is promised that there is none.
func TestWalIsThePlainOne(t *testing.T) {
	full := 0
	for seed := range int64(60) {
		rnd := rand.New(rand.NewSource(seed))
		m := &plain{segments: 4 + rnd.Intn(4)}
		p, w := fresh(t, 2+64*m.segments+rnd.Intn(64))
		keeps := rnd.Intn(3) // how often groups are cut
		for range 300 {
			switch n := rnd.Intn(20); {
			case n < 15:
				l := randomGroup(rnd)
				cost := plainCost(l)
				no, e := w.Append(l)
				switch {
				case e == api.OK && no == m.first+len(m.l) && m.fits(cost):
					m.add(l)
				case e == api.ErrFull && no == 0 && !m.fits(cost) && !m.isPromised(cost):
					full++
				default:
					t.Fatalf("seed %d: Append of the cost %d: %d %v; fits: %t, promised: %t", seed, cost, no, e, m.fits(cost), m.isPromised(cost))
				}
			case n < 17:
				if rnd.Intn(3) < keeps {
					break
				}
				no := m.first + rnd.Intn(len(m.l)+1)
				cutTo(t, w, no)
				m.cut(no)
			case n == 17:
				no := m.first + rnd.Intn(len(m.l)+3) - 1
				if no < m.first || no > m.first+len(m.l) {
					refused(t, w.Cut(no), api.ErrArg, "Cut")
				}
			case n == 18:
				p.Boot([]int{rnd.Intn(4), rnd.Intn(4)})
				fallthrough
			default:
				w = open(t, p, 0)
				m.open()
			}
			if !m.alike(w) {
				t.Fatalf("seed %d: %d to %d, room %d; want %d to %d, room %d", seed, w.First(), w.Next(), w.Room(), m.first, m.first+len(m.l), m.room())
			}
		}
	}
	if full < 100 {
		t.Errorf("only %d times there was no room", full)
	}
}

// P7.5: as many groups as are promised, of each cost, with the first and the last segment as badly used as may be.
func TestPromisedRoom(t *testing.T) {
	for cost := 1; cost <= 53; cost++ {
		for _, segments := range []int{4, 5, 9} {
			promised := (65 - cost) * (segments - 2) / cost
			if promised == 0 {
				continue
			}
			p, w := fresh(t, 2+64*segments)
			for no := range 3 * segments * 64 / cost {
				if w.Next()-w.First() == promised {
					cutTo(t, w, w.First()+1)
				}
				if got, e := w.Append(ofCost(cost, no)); got != no || e != api.OK {
					t.Fatalf("cost %d, %d segments: group %d of %d that are promised: %v", cost, segments, w.Next()-w.First(), promised, e)
				}
				if no%11 == 10 {
					w = open(t, p, 0)
				}
			}
		}
	}
}

// P7.3: a log as great as can be, full of groups without records, is filled, opened and cut in a short time.
func TestAGreatLog(t *testing.T) {
	p, w := fresh(t, api.MaxSectors)
	for range 1023 * 64 {
		lay(t, w, nil)
	}
	_, e := w.Append(nil)
	refused(t, e, api.ErrFull, "Append")
	w = open(t, p, 0)
	if w.First() != 0 || w.Next() != 1023*64 || w.Room() != 0 {
		t.Fatalf("%d to %d, room %d", w.First(), w.Next(), w.Room())
	}
	for no := range 1000 {
		cutTo(t, w, 64*(no+1))
		expectRoom(t, w, no+1)
	}
	w = open(t, p, 0)
	expectRoom(t, w, 1000)
	lay(t, w, ofCost(53, 1))
	if l, e := w.Read(1023 * 64); e != api.OK || !alikeGroups(l, ofCost(53, 1)) {
		t.Errorf("Read: %x %v", l, e)
	}
}

// P7.7: Open behind Open, and Boot behind Boot, tell the same.
func TestOpenBehindOpen(t *testing.T) {
	p, w := fresh(t, small)
	m := &plain{segments: 4}
	for no := range 60 {
		l := ofCost(no%7+1, no)
		lay(t, w, l)
		m.add(l)
		if no > 20 {
			cutTo(t, w, no-20)
			m.cut(no - 20)
		}
	}
	m.open()
	for i := range 20 {
		if i%3 > 0 {
			p.Boot([]int{i})
		}
		if w := open(t, p, 0); !m.alike(w) {
			t.Fatalf("%d times opened: %d to %d, room %d", i, w.First(), w.Next(), w.Room())
		}
	}
}

// P7.7: logs on other disks know nothing of one another: nor of what waits there, nor of a crash there.
func TestTwoLogs(t *testing.T) {
	rnd := rand.New(rand.NewSource(3))
	p := disks(t, small, 64, 322, 300)
	devs := []int{0, 2, 3}
	logs, plains := map[int]*Wal{}, map[int]*plain{}
	for _, dev := range devs {
		for _, ahead := range devs {
			if w := logs[ahead]; w != nil && !plains[ahead].alike(w) {
				t.Fatalf("a Format of %d changed %d", dev, ahead)
			}
		}
		n, _ := p.Len(dev)
		format(t, p, dev)
		logs[dev], plains[dev] = open(t, p, dev), &plain{segments: (n - 2) / 64}
	}
	for i := range 600 {
		dev := devs[rnd.Intn(3)]
		w, m := logs[dev], plains[dev]
		switch rnd.Intn(5) {
		case 0:
			no := m.first + rnd.Intn(len(m.l)+1)
			cutTo(t, w, no)
			m.cut(no)
		case 1:
			logs[dev] = open(t, p, dev)
			m.open()
		default:
			l := ofCost(1+rnd.Intn(9), i)
			if _, e := w.Append(l); e == api.OK {
				m.add(l)
			}
		}
		for _, dev := range devs {
			if !plains[dev].alike(logs[dev]) {
				t.Fatalf("act %d: the log on the disk %d is another one", i, dev)
			}
		}
	}
	if e := p.Write(1, 5, bytes.Repeat([]byte{1}, 64)); e != api.OK {
		t.Fatal(e)
	}
	lay(t, logs[0], nil)
	format(t, p, 2)
	p.Boot(nil)
	if b, _ := p.Read(1, 5); !bytes.Equal(b, make([]byte, 64)) {
		t.Error("what waits on another disk was flushed")
	}
	expect(t, open(t, p, 2), 0)
	plains[3].open()
	if !plains[3].alike(open(t, p, 3)) {
		t.Error("a Format of another disk changed a log")
	}
}

// P7.7: logs on clones of a plant go their own ways.
func TestLogsOnClones(t *testing.T) {
	p, w := fresh(t, small)
	lay(t, w, write("a"))
	c := p.Clone()
	v := open(t, c, 0)
	lay(t, v, write("b"))
	lay(t, w, write("c"))
	cutTo(t, v, 1)
	expect(t, w, 0, write("a"), write("c"))
	expect(t, v, 1, write("b"))
	expect(t, open(t, p, 0), 0, write("a"), write("c"))
	expect(t, open(t, c, 0), 1, write("b"))
}

// P7.3: what is handed in is neither changed nor kept, and not read behind its length (R6).
func TestAppendLeavesItsArgument(t *testing.T) {
	p, w := fresh(t, small)
	room := []byte("abcdefgh")
	whole := records{room[:2], room[2:2], room[1:4], []byte("not of it"), make([]byte, 3000)}
	lay(t, w, whole[:3])
	if string(room) != "abcdefgh" || string(whole[3]) != "not of it" || len(whole[0]) != 2 {
		t.Fatalf("Append changed what it was given: %s", room)
	}
	clear(room)
	whole[0] = nil
	want := write("ab", "", "bcd")
	expect(t, w, 0, want)
	expect(t, open(t, p, 0), 0, want)
}

// P7.3: what Read tells is the caller's, its spare room too, and no two records share any (R6).
func TestReadTellsNewMemory(t *testing.T) {
	_, w := fresh(t, small)
	want := write("abc", "", "defg", "", "h")
	lay(t, w, want)
	lay(t, w, want)
	got, _ := w.Read(0)
	for i := range got {
		other, _ := w.Read(0)
		spare := other[i][:cap(other[i])]
		for j := range spare {
			spare[j] = 'X'
		}
		other[i] = append(other[i], "YYYYYYYYYYYYYYYYYYYYYYYYYYYYYYYYYYYYY"...)
		for k, r := range other {
			if k != i && !bytes.Equal(r, want[k]) {
				t.Errorf("a change of the record %d changed the record %d: %s", i, k, r)
			}
		}
		l := append(other[:i], other...)
		l = append(l[:cap(l)], nil)
	}
	if !alikeGroups(got, want) {
		t.Errorf("changes of what Read told changed what it had told: %s", got)
	}
	expect(t, w, 0, want, want)
}
