package wal

import (
	"bytes"
	"math/rand"
	"slices"
	"testing"

	"groat/api"
	"groat/plant"
)

// keeps are ways to keep what waits: nothing, all, first halves, last halves, and by turns.
var keeps = [][]int{
	{0}, {1}, {2}, {3}, {1, 0}, {0, 1}, {2, 3}, {3, 2}, {1, 1, 0}, {0, 0, 1}, {1, 2, 3, 0}, {3, 1, 0, 2, 1}, {0, 2, 0, 3},
}

func randomKeep(rnd *rand.Rand) []int {
	if rnd.Intn(2) == 0 {
		return keeps[rnd.Intn(len(keeps))]
	}
	keep := make([]int, 1+rnd.Intn(60))
	odd := rnd.Intn(4) // mostly kept, so that but little is missing
	for i := range keep {
		if keep[i] = 1; rnd.Intn(10) < odd {
			keep[i] = rnd.Intn(4)
		}
	}
	return keep
}

// sameSum is what may be laid over bytes, anywhere, without a change of their check sum: the polynomial itself.
func sameSum() []byte {
	n := uint64(0x82f63b78)<<1 | 1
	return []byte{byte(n), byte(n >> 8), byte(n >> 16), byte(n >> 24), byte(n >> 32)}
}

// ahead is how many bytes of a group's text stand ahead of the bytes of its one record.
const ahead = countSize + lengthSize

// alikeInSum are a record of so many bytes, by chance, but all groups of such a one have one check sum, and so has whatever is put together of halves of theirs.
func alikeInSum(rnd *rand.Rand, n int) []byte {
	b := make([]byte, n)
	for half := 0; half*halfText < n+ahead; half++ {
		for range 3 {
			at := half*halfText - ahead + rnd.Intn(halfText-4)
			for i, x := range sameSum() {
				if at >= 0 && at+5 <= n {
					b[at+i] ^= x
				}
			}
		}
	}
	return b
}

func TestAlikeInSum(t *testing.T) {
	rnd := rand.New(rand.NewSource(1))
	for n := range 100 {
		a, b, other := pack(records{alikeInSum(rnd, n)}), pack(records{alikeInSum(rnd, n)}), 0
		sum := sumOf(a)
		for i := 0; i < len(a); i += halfText {
			if !bytes.Equal(a[i:i+halfText], b[i:i+halfText]) {
				other++
			}
			if rnd.Intn(2) == 0 {
				copy(a[i:i+halfText], b[i:i+halfText])
			}
		}
		if sumOf(a) != sum || sumOf(b) != sum || n > 30 && other == 0 {
			t.Fatalf("%d bytes: %d halves are unlike; sums %x, %x and %x mixed", n, other, sum, sumOf(b), sumOf(a))
		}
	}
}

// crash lets the power go off behind so many steps of an act, and boots. It tells whether it went off at all.
func crash(p *plant.Plant, steps int, keep []int, act func() api.Errno) bool {
	p.Fuse(steps)
	e := act()
	if e == api.ErrPower {
		p.Boot(keep)
		return true
	}
	p.Fuse(-1)
	return false
}

// step is an act of a script on a log that there is, or is not (nil), and what it does to the plain one.
type step struct {
	name  string
	act   func(p *plant.Plant, w *Wal) (*Wal, api.Errno)
	plain func(m *plain)
}

func stepFormat() step {
	return step{"Format",
		func(p *plant.Plant, w *Wal) (*Wal, api.Errno) { return nil, Format(p, 0) },
		func(m *plain) { *m = plain{segments: 4} }}
}

func stepOpen() step {
	return step{"Open",
		func(p *plant.Plant, w *Wal) (*Wal, api.Errno) { return Open(p, 0) },
		func(m *plain) { m.open() }}
}

func stepAppend(l records) step {
	return step{"Append",
		func(p *plant.Plant, w *Wal) (*Wal, api.Errno) { _, e := w.Append(l); return w, e },
		func(m *plain) { m.add(l) }}
}

func stepCut(no int) step {
	return step{"Cut",
		func(p *plant.Plant, w *Wal) (*Wal, api.Errno) { return w, w.Cut(no) },
		func(m *plain) { m.cut(no) }}
}

// script uses each segment again, cuts within one and to the end, and formats what was used.
func script(rnd *rand.Rand) []step {
	l := []step{stepFormat(), stepOpen()}
	next := 0
	add := func(sizes ...int) {
		for _, n := range sizes {
			l = append(l, stepAppend(records{alikeInSum(rnd, n)}))
			next++
		}
	}
	add(10, 60, 0, 2000)
	l = append(l, stepAppend(nil), stepCut(2))
	next++
	add(1000, 1000, 1000)
	l = append(l, stepCut(next), stepOpen())
	add(100, 2040)
	l = append(l, stepOpen(), stepCut(next-1))
	add(1500, 600, 2000, 30)
	l = append(l, stepCut(next-1), stepCut(next-1), stepFormat(), stepOpen())
	next = 0
	add(60, 10, 700)
	return append(l, stepCut(1))
}

// opened opens a log behind a crash in an act, and tells which of the two plain logs it is: as it was, or as it would be. Format alone may leave none.
func opened(t *testing.T, p *plant.Plant, s step, was, is *plain) (*Wal, *plain) {
	t.Helper()
	w, e := Open(p, 0)
	if e == api.ErrCorrupt && (s.name == "Format" || was.segments == 0) {
		return nil, &plain{}
	}
	if e != api.OK {
		t.Fatalf("Open behind a crash in %s: %v", s.name, e)
	}
	for _, m := range []*plain{was, is} {
		m = m.clone()
		if m.open(); m.alike(w) {
			return w, m
		}
	}
	t.Fatalf("Open behind a crash in %s tells %d to %d, room %d", s.name, w.First(), w.Next(), w.Room())
	return nil, nil
}

// play plays the script, with a crash behind so many steps of one of its acts, and one more behind so many of the Open that comes then. It tells whether there was a crash.
func play(t *testing.T, l []step, at, steps, again int, keep []int) bool {
	t.Helper()
	p := disks(t, small)
	var w *Wal
	m := &plain{} // of no segments: there is no log
	for i, s := range l {
		act := func() (e api.Errno) { w, e = s.act(p, w); return e }
		if i == at {
			is := m.clone()
			s.plain(is)
			if !crash(p, steps, keep, act) {
				return false
			}
			crash(p, again, keep, func() api.Errno { _, e := Open(p, 0); return e })
			w, m = opened(t, p, s, m, is)
			if s.name == "Open" || s.name == "Append" && len(m.l) == len(is.l) {
				continue
			}
		}
		if e := act(); e != api.OK {
			t.Fatalf("%s, act %d: %v", s.name, i, e)
		}
		s.plain(m)
	}
	if !m.alike(w) {
		t.Fatalf("the end: %d to %d, want %d to %d", w.First(), w.Next(), m.first, m.first+len(m.l))
	}
	w = open(t, p, 0)
	if m.open(); !m.alike(w) {
		t.Fatalf("the end, opened: %d to %d, want %d to %d", w.First(), w.Next(), m.first, m.first+len(m.l))
	}
	return true
}

// P7.6: a crash at each step of each act, whatever is kept, and one more within the Open behind it.
func TestACrashAtEachStep(t *testing.T) {
	if testing.Short() {
		t.Skip("takes seconds")
	}
	l := script(rand.New(rand.NewSource(1)))
	for at := range l {
		for i, keep := range keeps {
			for steps := 0; play(t, l, at, steps, i%3, keep); steps++ {
			}
		}
	}
}

// P7.1, P7.3, P7.4: what was answered is there for good: a boot that keeps nothing, or anything, takes nothing of it.
func TestForGood(t *testing.T) {
	for _, keep := range keeps {
		p, m := disks(t, small), &plain{}
		var w *Wal
		for i, s := range script(rand.New(rand.NewSource(2))) {
			if m.segments > 0 && s.name != "Open" {
				w = open(t, p, 0)
				m.open()
			}
			v, e := s.act(p, w)
			if e != api.OK {
				t.Fatalf("%s, act %d: %v", s.name, i, e)
			}
			w = v
			s.plain(m)
			p.Boot(keep)
			m.open()
			if w = open(t, p, 0); !m.alike(w) {
				t.Fatalf("%s, act %d: %d to %d, want %d to %d", s.name, i, w.First(), w.Next(), m.first, m.first+len(m.l))
			}
		}
	}
}

// P7.6: long runs, with crashes by chance, of groups whose halves mixed have one check sum.
func TestCrashesByChance(t *testing.T) {
	crashes := 0
	for seed := range int64(150) {
		rnd := rand.New(rand.NewSource(seed))
		p, w := fresh(t, small)
		m := &plain{segments: 4}
		for range 150 {
			s := randomStep(rnd, m)
			is := m.clone()
			s.plain(is)
			steps := rnd.Intn(80)
			if rnd.Intn(2) == 0 {
				steps = rnd.Intn(6)
			}
			if !crash(p, steps, randomKeep(rnd), func() (e api.Errno) { w, e = s.act(p, w); return e }) {
				m = is
			} else {
				crashes++
				for crash(p, rnd.Intn(3), randomKeep(rnd), func() api.Errno { _, e := Open(p, 0); return e }) {
				}
				w, m = opened(t, p, s, m, is)
			}
			if m.segments == 0 {
				format(t, p, 0)
				w, m = open(t, p, 0), &plain{segments: 4}
			}
			if s.name == "Format" && w == nil {
				w = open(t, p, 0)
				m.open()
			}
			if !m.alike(w) {
				t.Fatalf("seed %d, %s: %d to %d, want %d to %d", seed, s.name, w.First(), w.Next(), m.first, m.first+len(m.l))
			}
		}
	}
	if crashes < 1000 {
		t.Errorf("only %d crashes", crashes)
	}
}

func randomStep(rnd *rand.Rand, m *plain) step {
	n := rnd.Intn(40)
	if n == 0 {
		return stepFormat()
	}
	if n < 5 {
		return stepOpen()
	}
	size := []int{rnd.Intn(40), 20, 60, 18, rnd.Intn(2049)}[rnd.Intn(5)] // often the same ones, so that halves fit
	l := records{alikeInSum(rnd, size)}
	if n < 10 || !m.fits(plainCost(l)) {
		return stepCut(m.first + rnd.Intn(len(m.l)+1))
	}
	return stepAppend(l)
}

// P7.6: three groups of one number, one place, one shape and one check sum: of the first two, crashes leave whatever halves; no two are taken for one.
func TestHalvesOfTwoGroups(t *testing.T) {
	rnd := rand.New(rand.NewSource(3))
	const size = 77 // two sectors
	for n := range 4 * 4 * 4 * 4 {
		p, w := fresh(t, small)
		lay(t, w, write("ahead"))
		var tried []records
		for _, keep := range [][]int{{n % 4, n / 4 % 4}, {n / 16 % 4, n / 64}} {
			l := records{alikeInSum(rnd, size)}
			tried = append(tried, l)
			if !crash(p, 2, keep, func() api.Errno { _, e := w.Append(l); return e }) {
				t.Fatal("no crash")
			}
			w = open(t, p, 0)
			want := []records{write("ahead")}
			if keep[0] == 1 && keep[1] == 1 {
				want = append(want, l)
			}
			expect(t, w, 0, want...)
			if len(want) == 2 {
				break
			}
		}
		next := w.Next()
		l := records{alikeInSum(rnd, size)}
		lay(t, w, l)
		w = open(t, p, 0)
		if got, e := w.Read(next); e != api.OK || !alikeGroups(got, l) || w.Next() != next+1 {
			t.Fatalf("%d: Read(%d): %x %v, want %x; there were %x", n, next, got, e, l, tried)
		}
	}
}

// P7.6: a Cut, and three Opens behind it, of whose headers crashes leave whatever halves: First is what Cut said just if its own header is whole, and else as it was.
func TestHalvesOfHeaders(t *testing.T) {
	for n := range 4 * 4 * 4 * 4 {
		p, w := fresh(t, small)
		var want []records
		for no := range 4 {
			want = append(want, ofCost(3, no))
			lay(t, w, want[no])
		}
		cutTo(t, w, 1)
		if !crash(p, 1, []int{n % 4}, func() api.Errno { return w.Cut(3) }) {
			t.Fatal("no crash")
		}
		for _, k := range []int{n / 4 % 4, n / 16 % 4, n / 64} {
			if !crash(p, 1, []int{k}, func() api.Errno { _, e := Open(p, 0); return e }) {
				t.Fatal("no crash")
			}
		}
		first := 1
		if n%4 == 1 {
			first = 3
		}
		given := 0
		for i := range 2 * headers {
			g, _ := cut(sectorsOf(t, p, 0)[i*halfSize:], 0)
			given = max(given, g.stamp().age)
		}
		w = open(t, p, 0)
		if w.h.age <= given {
			t.Fatalf("%d: an age of %d, and there was one of %d", n, w.h.age, given)
		}
		expect(t, w, first, want[first:]...)
		cutTo(t, w, 4)
		expect(t, open(t, p, 0), 4)
	}
}

// sectorsOf are all that a disk has, one behind the other.
func sectorsOf(t *testing.T, p *plant.Plant, dev int) []byte {
	t.Helper()
	var l []byte
	n, _ := p.Len(dev)
	for place := range n {
		b, e := p.Read(dev, place)
		if e != api.OK {
			t.Fatal(e)
		}
		l = append(l, b...)
	}
	return l
}

func putSectors(t *testing.T, p *plant.Plant, dev, place int, l []byte) {
	t.Helper()
	for i := 0; i < len(l); i += api.SectorSize {
		if e := p.Write(dev, place+i/api.SectorSize, l[i:i+api.SectorSize]); e != api.OK {
			t.Fatal(e)
		}
	}
	if e := p.Flush(dev); e != api.OK {
		t.Fatal(e)
	}
}

// behindOne is a log of one group, opened anew.
func behindOne(t *testing.T) (*plant.Plant, *Wal) {
	t.Helper()
	p, w := fresh(t, small)
	lay(t, w, write("ahead"))
	return p, open(t, p, 0)
}

// P7.6: records may be just such bytes as the log itself would lay down behind them, and for headers: they are no groups, whole or torn, wherever in a sector they come to lie.
func TestRecordsLikeTheLogsOwn(t *testing.T) {
	twin, w := behindOne(t)
	for no := range 12 {
		lay(t, w, ofCost(2, no))
	}
	cutTo(t, w, 9)
	raw := sectorsOf(t, twin, 0)
	for shift := range api.SectorSize {
		image := slices.Concat(make([]byte, shift), raw[4*api.SectorSize:][:24*api.SectorSize], raw[:2*api.SectorSize])
		like := records{image[:900], image[900:]}
		for i, keep := range keeps {
			p, w := behindOne(t)
			crash(p, (7*shift+5*i)%50, keep, func() api.Errno { _, e := w.Append(like); return e })
			if w = open(t, p, 0); w.Next() == 1 {
				expect(t, w, 0, write("ahead"))
				lay(t, w, like)
			}
			expect(t, open(t, p, 0), 0, write("ahead"), like)
			cutTo(t, w, 2)
			w = open(t, p, 0) // goes on where the first group was
			crash(p, 1, keep, func() api.Errno { _, e := w.Append(write("x")); return e })
			if w = open(t, p, 0); w.Next() == 2 {
				lay(t, w, write("x"))
			}
			expect(t, open(t, p, 0), 2, write("x"))
		}
	}
}

// used is the disk of a log that was used much: with groups, and what is left of others, in all its segments.
func used(t *testing.T) (*plant.Plant, *plain) {
	t.Helper()
	p, w := fresh(t, small)
	m := &plain{segments: 4}
	for no := range 200 {
		l := ofCost(no%6+1, no)
		if !m.fits(plainCost(l)) {
			cutTo(t, w, no-4)
			m.cut(no - 4)
		}
		lay(t, w, l)
		m.add(l)
	}
	return p, m
}

// P7.1: whatever a disk had, there is a log without groups, and none comes back, in whatever way the new ones lie.
func TestFormatOfAnyDisk(t *testing.T) {
	rnd := rand.New(rand.NewSource(4))
	old, _ := used(t)
	image := sectorsOf(t, old, 0)
	noise := make([]byte, len(image))
	rnd.Read(noise)
	young, w := fresh(t, small)
	for no := range 30 {
		lay(t, w, ofCost(no%3+1, no))
	}
	for i, was := range [][]byte{
		image, noise, slices.Repeat([]byte{0xff}, len(image)), slices.Repeat([]byte{1}, len(image)), sectorsOf(t, young, 0),
		slices.Concat(image[2*64:], image[:2*64]), slices.Concat(image[:64], image[:64], image[2*64:]), slices.Concat(noise[:2*64], image[2*64:]),
	} {
		for cost := range 4 {
			p := disks(t, small)
			putSectors(t, p, 0, 0, was)
			format(t, p, 0)
			p.Boot([]int{2})
			w := open(t, p, 0)
			expect(t, w, 0)
			expectRoom(t, w, 3)
			var want []records
			for no := range 20 {
				l := ofCost(max(cost, no%3*(1-min(cost, 1))+1), no)
				crash(p, rnd.Intn(2), []int{rnd.Intn(4)}, func() api.Errno { _, e := w.Append(append(l, []byte("x"))); return e })
				if w = open(t, p, 0); w.Next() > no {
					l = append(l, []byte("x"))
				} else {
					lay(t, w, l)
				}
				want = append(want, l)
				w = open(t, p, 0)
				if w.Next() != no+1 {
					t.Fatalf("disk %d, cost %d: Next: %d, want %d", i, cost, w.Next(), no+1)
				}
			}
			expect(t, w, 0, want...)
		}
	}
}

// P7.6: behind a crash in Format there is what was there ahead, and from some step on ErrCorrupt. (If the crash is at the last step, and all is kept, the disk is as if Format had been answered.)
func TestCrashesOfFormat(t *testing.T) {
	old, was := used(t)
	was.open()
	done := old.Clone()
	format(t, done, 0)
	total := done.Steps() - old.Steps()
	for _, keep := range keeps {
		gone := false
		for steps := range total {
			p := old.Clone()
			if !crash(p, steps, keep, func() api.Errno { return Format(p, 0) }) {
				t.Fatalf("no crash %d steps behind", steps)
			}
			w, e := Open(p, 0)
			switch {
			case e == api.ErrCorrupt:
				gone = true
			case e != api.OK:
				t.Fatalf("keep %v, %d steps behind: %v", keep, steps, e)
			case steps == total-1 && keep[0] == 1:
				expect(t, w, 0)
			case gone || !was.alike(w):
				t.Fatalf("keep %v, %d steps behind: %d to %d", keep, steps, w.First(), w.Next())
			}
			format(t, p, 0)
			expect(t, open(t, p, 0), 0)
		}
		if !gone {
			t.Errorf("keep %v: there was a log at each step", keep)
		}
	}
}

// ask makes all calls of a log, whatever it is: none of them panics.
func ask(t *testing.T, w *Wal) {
	t.Helper()
	first, next := w.First(), w.Next()
	if next < first || w.Room() < 0 {
		t.Fatalf("%d to %d, room %d", first, next, w.Room())
	}
	for no := first - 1; no <= next; no++ {
		if l, e := w.Read(no); e != api.OK && (e != api.ErrArg && e != api.ErrCorrupt || len(l) > 0) {
			t.Fatalf("Read(%d): %x %v", no, l, e)
		}
	}
	for range 3 {
		w.Append(write("x"))
		w.Append(ofCost(53, 1))
		w.Cut(w.First() + 1)
	}
	w.Read(w.Next() - 1)
	w.Cut(w.Next())
}

// R4: no bytes on a disk make a call panic.
func TestAnyBytes(t *testing.T) {
	logs := 0
	old, _ := used(t)
	image := sectorsOf(t, old, 0)
	for seed := range int64(400) {
		rnd := rand.New(rand.NewSource(seed))
		p := disks(t, small)
		l := slices.Clone(image)
		from := rnd.Intn(2) * 2 * api.SectorSize // often with the headers as they were
		for range 1 + rnd.Intn(200) {
			at := from + rnd.Intn(len(l)-from)
			switch rnd.Intn(3) {
			case 0:
				l[at] = byte(rnd.Uint32())
			case 1:
				l[at/32*32+rnd.Intn(12)] ^= 1 << rnd.Intn(8)
			case 2:
				copy(l[at/64*64:][:64], image[rnd.Intn(small)*64:])
			}
		}
		putSectors(t, p, 0, 0, l)
		w, e := Open(p, 0)
		if (w == nil) != (e == api.ErrCorrupt) {
			t.Fatalf("Open: %v %v", w, e)
		}
		if w != nil {
			logs++
			putSectors(t, p, 0, rnd.Intn(100), l[64*rnd.Intn(100):][:64*100]) // what it knows of is another thing now
			ask(t, w)
		}
		format(t, p, 0)
		expect(t, open(t, p, 0), 0)
	}
	if logs < 20 {
		t.Errorf("only %d logs", logs)
	}
}

// R4: groups with right tags, and right check sums, that no Append laid down.
func TestForgedGroups(t *testing.T) {
	text := func(sectors, count int, lengths ...int) []byte {
		b := make([]byte, sectors*textSize)
		b[0] = byte(count)
		for i, n := range lengths {
			put(b[countSize+2*i:][:2], n)
		}
		return b
	}
	of := func(no, cost int) stamp { return stamp{age: 9, no: no, cost: cost} }
	for _, x := range []struct {
		name  string
		s     stamp
		place int
		t     []byte
		next  int // 0: Open tells ErrCorrupt
	}{
		{"a group like all others", of(3, 3), 8, text(3, 1, 20), 4},
		{"a gap", of(5, 3), begin(1), text(3, 1, 20), 0},
		{"a number that there is", of(1, 3), begin(1), text(3, 1, 20), 0},
		{"a gap behind a group", of(4, 3), 8, text(3, 1, 20), 3},
		{"a length that just fits", of(3, 3), 8, text(3, 1, 117), 4},
		{"a length that is too great", of(3, 3), 8, text(3, 1, 118), 0},
		{"lengths that are too great together", of(3, 3), 8, text(3, 2, 100, 16), 0},
		{"more lengths than there may be", of(3, 3), 8, text(3, 255), 0},
		{"lengths that are not there", of(3, 1), 8, text(1, 20), 0},
		{"a cost that fills the segment", of(3, 58), 8, text(58, 1, 20), 4},
		{"a cost that passes the segment", of(3, 59), 8, text(59, 1, 20), 3},
		{"a cost that passes the disk", of(3, 65), begin(3), text(64, 1, 20), 3},
		{"no cost", of(3, 0), 8, text(1, 0), 3},
		{"the greatest number", of(1<<32-1, 3), begin(2), text(3, 1, 20), 0},
	} {
		p, w := fresh(t, small)
		for no := range 3 {
			lay(t, w, ofCost(2, no))
		}
		if e := w.d.lay(x.place, x.s, x.t); e != api.OK {
			t.Fatal(x.name, e)
		}
		steps := p.Steps()
		w, e := Open(p, 0)
		switch {
		case x.next == 0 && (w != nil || e != api.ErrCorrupt || p.Steps() != steps):
			t.Errorf("%s: Open: %v %v, %d steps", x.name, w, e, p.Steps()-steps)
		case x.next > 0 && (e != api.OK || w.Next() != x.next):
			t.Errorf("%s: Open: %v %v", x.name, w, e)
		case x.next > 0:
			ask(t, w)
		}
		format(t, p, 0)
		expect(t, open(t, p, 0), 0)
	}
}

// R4: a group whose text is another one than its check sum says.
func TestAGroupWithAWrongSum(t *testing.T) {
	for at := range 3 * api.SectorSize {
		if at%halfSize < tagSize {
			continue
		}
		p, w := fresh(t, small)
		lay(t, w, ofCost(3, 0))
		lay(t, w, nil)
		l := sectorsOf(t, p, 0)[2*api.SectorSize : 5*api.SectorSize]
		l[at] ^= 1
		putSectors(t, p, 0, 2, l)
		w, e := Open(p, 0)
		if w != nil || e != api.ErrCorrupt {
			t.Errorf("byte %d is another one: %v %v", at, w, e)
		}
	}
}

// R4: a group that is not there any more, or another one in its place, is told by Read.
func TestReadOfWhatIsNotThere(t *testing.T) {
	for i, put := range []func(raw []byte) []byte{
		func(raw []byte) []byte { return make([]byte, 128) },
		func(raw []byte) []byte { return raw[6*64 : 8*64] },
		func(raw []byte) []byte { return raw[:128] },
		func(raw []byte) []byte { return slices.Concat(raw[4*64:5*64], raw[7*64:8*64]) },
		func(raw []byte) []byte { raw[5*64+50] ^= 4; return raw[4*64 : 6*64] },
	} {
		p, w := fresh(t, small)
		for no := range 3 {
			lay(t, w, ofCost(2, no))
		}
		putSectors(t, p, 0, 4, put(sectorsOf(t, p, 0)))
		if l, e := w.Read(1); len(l) > 0 || e != api.ErrCorrupt {
			t.Errorf("%d: Read: %x %v", i, l, e)
		}
		for _, no := range []int{0, 2} {
			if l, e := w.Read(no); e != api.OK || !alikeGroups(l, ofCost(2, no)) {
				t.Errorf("%d: Read(%d): %x %v", i, no, l, e)
			}
		}
	}
}

// P7.2: there is no log, if none of the headers is whole.
func TestOpenWithoutAHeader(t *testing.T) {
	for at := range api.SectorSize {
		p, w := fresh(t, small)
		lay(t, w, nil)
		l := sectorsOf(t, p, 0)[:2*api.SectorSize]
		l[at]++
		l[api.SectorSize+at]++
		putSectors(t, p, 0, 0, l)
		w, e := Open(p, 0)
		if w != nil || e != api.ErrCorrupt {
			t.Errorf("byte %d is another one: %v %v", at, w, e)
		}
	}
}

// P7.3, P7.4: numbers, and ages, as great as a log can come to: some more than 2^31, as the last steps that are promised do.
func TestGreatNumbers(t *testing.T) {
	for _, n := range []int{1<<8 - 2, 1<<16 - 2, 1<<24 - 2, 1<<31 - 2} {
		p, w := fresh(t, small)
		if e := w.d.layHeader(header{slot: w.h.slot, age: n, first: n}); e != api.OK {
			t.Fatal(e)
		}
		w = open(t, p, 0)
		expect(t, w, n)
		for no := n; no < n+8; no++ {
			lay(t, w, ofCost(2, no))
			expect(t, open(t, p, 0), w.First(), ofCost(2, no))
			w = open(t, p, 0)
			cutTo(t, w, no+1)
		}
		w = open(t, p, 0)
		expect(t, w, n+8)
		if w.h.age < n+8 {
			t.Errorf("an age of %d behind one of %d", w.h.age, n)
		}
	}
}

// R4: headers of the greatest numbers are no reason to panic.
func TestForgedHeaders(t *testing.T) {
	for _, h := range []header{{age: 1<<32 - 1}, {age: 1<<32 - 1, first: 1<<32 - 1}, {age: 7, first: 1<<32 - 2}, {slot: 1, age: 1<<32 - 2}} {
		p, w := fresh(t, small)
		lay(t, w, nil)
		if e := w.d.layHeader(h); e != api.OK {
			t.Fatal(e)
		}
		for range 4 {
			if w, e := Open(p, 0); e == api.OK {
				ask(t, w)
			}
		}
		format(t, p, 0)
		expect(t, open(t, p, 0), 0)
	}
}

// R3: none of the calls of a log panics whose disk was booted, formatted or opened anew since.
func TestALogThatIsNotAskedAnyMore(t *testing.T) {
	p, w := fresh(t, small)
	for no := range 10 {
		lay(t, w, ofCost(9, no))
	}
	crash(p, 2, []int{2}, func() api.Errno { _, e := w.Append(ofCost(9, 10)); return e })
	v := open(t, p, 0)
	cutTo(t, v, 9)
	ask(t, w)
	format(t, p, 0)
	ask(t, w)
	ask(t, v)
	p.Fuse(0)
	p.Flush(0)
	w.Append(nil)
	w.Cut(w.First())
	w.Read(w.First())
}
