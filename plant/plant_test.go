package plant

import (
	"bytes"
	"math"
	"math/rand"
	"slices"
	"testing"

	"groat/api"
)

const size = api.SectorSize

// full are a sector's bytes, all the same.
func full(c byte) []byte { return bytes.Repeat([]byte{c}, size) }

// halves are a sector's bytes, each half all the same.
func halves(first, last byte) []byte {
	return append(bytes.Repeat([]byte{first}, size/2), bytes.Repeat([]byte{last}, size/2)...)
}

func randomSector(rnd *rand.Rand) []byte {
	b := make([]byte, size)
	rnd.Read(b)
	return b
}

func build(t *testing.T, sectors ...int) *Plant {
	t.Helper()
	p, e := New(sectors)
	if e != api.OK || p == nil {
		t.Fatalf("New(%v): %v", sectors, e)
	}
	return p
}

func write1(t *testing.T, p *Plant, dev, place int, b []byte) {
	t.Helper()
	if e := p.Write(dev, place, b); e != api.OK {
		t.Fatalf("Write(%d, %d): %v", dev, place, e)
	}
}

func flush1(t *testing.T, p *Plant, dev int) {
	t.Helper()
	if e := p.Flush(dev); e != api.OK {
		t.Fatalf("Flush(%d): %v", dev, e)
	}
}

func expect(t *testing.T, p *Plant, dev, place int, want []byte) {
	t.Helper()
	b, e := p.Read(dev, place)
	if e != api.OK || !bytes.Equal(b, want) {
		t.Errorf("Read(%d, %d): %x %v, want %x", dev, place, b, e, want)
	}
}

// turnOff lets the power go off with nothing done.
func turnOff(t *testing.T, p *Plant) {
	t.Helper()
	steps := p.Steps()
	p.Fuse(0)
	if e := p.Flush(0); e != api.ErrPower || p.On() || p.Steps() != steps {
		t.Fatalf("a fuse of 0: %v, on %t, %d steps, want %d", e, p.On(), p.Steps(), steps)
	}
}

// P3.1
func TestShapesThatMayNotBe(t *testing.T) {
	for _, l := range [][]int{
		nil, {}, {0}, {-1}, {math.MinInt}, {math.MaxInt}, {65537}, {1 << 32}, {64, 0}, {0, 64}, {1, 1, 1, 0}, {1, 1, 1, -1},
		{65536, 65537}, {65536, 65536, 65536, 65537}, {1, 1, 1, 1, 1}, {1, 1, 1, 1, 0}, make([]int, 1000),
	} {
		if p, e := New(l); p != nil || e != api.ErrShape {
			t.Errorf("New(%v): %v %v", l, p, e)
		}
	}
}

// P3.1
func TestNew(t *testing.T) {
	for _, l := range [][]int{{1}, {65536}, {2, 1}, {1, 65536, 7}, {1, 2, 3, 4}, {65536, 65536, 65536, 65536}} {
		p := build(t, l...)
		if !p.On() || p.Steps() != 0 {
			t.Errorf("New(%v): on %t, %d steps", l, p.On(), p.Steps())
		}
		for dev, n := range l {
			if got, e := p.Len(dev); got != n || e != api.OK {
				t.Errorf("New(%v): Len(%d): %d %v", l, dev, got, e)
			}
			for _, place := range []int{0, n / 2, n - 1} {
				expect(t, p, dev, place, full(0))
			}
		}
	}
}

// P3.1: no fuse at first.
func TestNewHasNoFuse(t *testing.T) {
	p := build(t, 3)
	for i := range 5000 {
		write1(t, p, 0, i%3, full(byte(i)))
		flush1(t, p, 0)
	}
	if p.Steps() != 10000 {
		t.Errorf("%d steps", p.Steps())
	}
}

// P3.1: the list is not kept, and what is behind its length not read (R6).
func TestNewLeavesItsList(t *testing.T) {
	whole := []int{2, 3, 0, 0, 0, 0}
	p := build(t, whole[:2]...)
	if q, e := New(whole[:2]); q == nil || e != api.OK {
		t.Errorf("a list with noughts behind its length: %v", e)
	}
	if !slices.Equal(whole, []int{2, 3, 0, 0, 0, 0}) {
		t.Errorf("the list was changed: %v", whole)
	}
	whole[0], whole[1] = 9, 1
	for dev, want := range []int{2, 3} {
		if n, e := p.Len(dev); n != want || e != api.OK {
			t.Errorf("behind a change of the list: Len(%d): %d %v", dev, n, e)
		}
	}
}

// P3.1: Len, also while the power is off.
func TestLen(t *testing.T) {
	p := build(t, 5, 65536)
	for _, on := range []bool{true, false} {
		if !on {
			turnOff(t, p)
		}
		for _, x := range []struct {
			dev, n int
			e      api.Errno
		}{
			{0, 5, api.OK}, {1, 65536, api.OK}, {2, 0, api.ErrPlace}, {3, 0, api.ErrPlace}, {-1, 0, api.ErrPlace},
			{math.MinInt, 0, api.ErrPlace}, {math.MaxInt, 0, api.ErrPlace}, {1 << 32, 0, api.ErrPlace},
		} {
			if n, e := p.Len(x.dev); n != x.n || e != x.e {
				t.Errorf("on %t: Len(%d): %d %v, want %d %v", on, x.dev, n, e, x.n, x.e)
			}
		}
	}
}

// outside are disks and places that a plant of two disks, of 2 and 3 sectors, hasn't.
func outside() [][2]int {
	return [][2]int{
		{-1, 0}, {2, 0}, {3, 0}, {math.MinInt, 0}, {math.MaxInt, 0}, {1 << 32, 0},
		{0, -1}, {0, 2}, {1, -1}, {1, 3}, {0, math.MinInt}, {0, math.MaxInt}, {1, 1 << 32}, {-1, -1}, {2, 3},
	}
}

// P3.2
func TestReadTellsWhatWasWrittenLast(t *testing.T) {
	p := build(t, 65536, 2)
	for _, place := range []int{0, 1, 65534, 65535} {
		write1(t, p, 0, place, halves(1, byte(place)))
		expect(t, p, 0, place, halves(1, byte(place)))
		write1(t, p, 0, place, halves(2, byte(place)))
		expect(t, p, 0, place, halves(2, byte(place)))
	}
	expect(t, p, 1, 0, full(0))
	expect(t, p, 1, 1, full(0))
	flush1(t, p, 0)
	for _, place := range []int{0, 1, 65534, 65535} {
		expect(t, p, 0, place, halves(2, byte(place)))
		write1(t, p, 0, place, full(3))
		expect(t, p, 0, place, full(3))
	}
	expect(t, p, 0, 2, full(0))
	expect(t, p, 0, 65533, full(0))
}

// P3.2, P3.3: noughts that were written last are told, not what was there ahead.
func TestNoughtsOverOthers(t *testing.T) {
	p := build(t, 1)
	write1(t, p, 0, 0, full(7))
	flush1(t, p, 0)
	write1(t, p, 0, 0, full(0))
	expect(t, p, 0, 0, full(0))
	flush1(t, p, 0)
	p.Boot(nil)
	expect(t, p, 0, 0, full(0))
}

// P3.2
func TestReadOutside(t *testing.T) {
	p := build(t, 2, 3)
	for _, x := range outside() {
		if b, e := p.Read(x[0], x[1]); b != nil || e != api.ErrPlace {
			t.Errorf("Read(%d, %d): %v %v", x[0], x[1], b, e)
		}
	}
	expect(t, p, 1, 2, full(0))
	turnOff(t, p)
	for _, x := range append(outside(), [2]int{0, 0}, [2]int{1, 2}) {
		if b, e := p.Read(x[0], x[1]); b != nil || e != api.ErrPower {
			t.Errorf("the power is off: Read(%d, %d): %v %v", x[0], x[1], b, e)
		}
	}
}

// P3.3: which error is told first, and that none of them is a step, burns a fuse, or writes.
func TestWriteRefused(t *testing.T) {
	p := build(t, 2, 3)
	write1(t, p, 0, 1, full(5))
	p.Fuse(1)
	wrong := [][]byte{nil, {}, {1}, full(1)[:63], append(full(1), 1), make([]byte, 128), make([]byte, 32)}
	for _, b := range wrong {
		if e := p.Write(0, 1, b); e != api.ErrBytes {
			t.Errorf("%d bytes: %v", len(b), e)
		}
		for _, x := range outside() {
			if e := p.Write(x[0], x[1], b); e != api.ErrPlace {
				t.Errorf("Write(%d, %d) of %d bytes: %v", x[0], x[1], len(b), e)
			}
		}
	}
	for _, x := range outside() {
		if e := p.Write(x[0], x[1], full(1)); e != api.ErrPlace {
			t.Errorf("Write(%d, %d): %v", x[0], x[1], e)
		}
	}
	if p.Steps() != 1 || !p.On() {
		t.Errorf("refused: %d steps, on %t", p.Steps(), p.On())
	}
	expect(t, p, 0, 1, full(5))
	write1(t, p, 0, 0, full(6))
	if e := p.Write(0, 0, nil); e != api.ErrBytes || !p.On() {
		t.Errorf("wrong bytes at a fuse of 0: %v, on %t", e, p.On())
	}
	turnOff(t, p)
	for _, x := range append(outside(), [2]int{0, 0}) {
		if e := p.Write(x[0], x[1], nil); e != api.ErrPower {
			t.Errorf("the power is off: Write(%d, %d): %v", x[0], x[1], e)
		}
	}
	p.Boot([]int{1})
	expect(t, p, 0, 1, full(5))
	expect(t, p, 0, 0, full(6))
}

// P3.3: a slice of just 64 bytes is taken, whatever room is behind it.
func TestWriteOfAPiece(t *testing.T) {
	p := build(t, 1)
	whole := append(full(1), full(2)...)
	write1(t, p, 0, 0, whole[:size])
	expect(t, p, 0, 0, full(1))
	if e := p.Write(0, 0, whole[:size-1]); e != api.ErrBytes {
		t.Errorf("63 bytes with room behind them: %v", e)
	}
}

// P3.3
func TestFlushRefused(t *testing.T) {
	p := build(t, 2, 3)
	p.Fuse(0)
	for _, dev := range []int{-1, 2, 3, 4, math.MinInt, math.MaxInt, 1 << 32} {
		if e := p.Flush(dev); e != api.ErrPlace || !p.On() || p.Steps() != 0 {
			t.Errorf("Flush(%d): %v, on %t, %d steps", dev, e, p.On(), p.Steps())
		}
	}
	turnOff(t, p)
	for _, dev := range []int{-1, 0, 1, 2, math.MinInt, math.MaxInt} {
		if e := p.Flush(dev); e != api.ErrPower {
			t.Errorf("the power is off: Flush(%d): %v", dev, e)
		}
	}
}

// P3.3: all writes of that disk, none of another.
func TestFlush(t *testing.T) {
	p := build(t, 3, 3)
	for place := range 3 {
		write1(t, p, 0, place, full(9))
		write1(t, p, 0, place, full(byte(place+1)))
		write1(t, p, 1, place, full(byte(place+4)))
	}
	flush1(t, p, 0)
	expect(t, p, 1, 2, full(6))
	p.Boot(nil)
	for place := range 3 {
		expect(t, p, 0, place, full(byte(place+1)))
		expect(t, p, 1, place, full(0))
	}
}

// P3.3: a flush of a disk without writes that wait is a step too.
func TestFlushOfNothing(t *testing.T) {
	p := build(t, 1, 1)
	write1(t, p, 1, 0, full(1))
	for range 3 {
		flush1(t, p, 0)
	}
	if p.Steps() != 4 {
		t.Errorf("%d steps", p.Steps())
	}
	p.Boot(nil)
	expect(t, p, 1, 0, full(0))
}

// P3.4, P3.5: a fuse of each length, over writes and flushes.
func TestFuse(t *testing.T) {
	for n := range 20 {
		p := build(t, 40, 40)
		write1(t, p, 1, 0, full(1))
		p.Fuse(n)
		for i := range n {
			if i%3 == 2 {
				flush1(t, p, i%2)
			} else {
				write1(t, p, i%2, i, full(byte(i)))
			}
			if !p.On() || p.Steps() != i+2 {
				t.Errorf("a fuse of %d, behind %d steps: on %t, %d steps", n, i+1, p.On(), p.Steps())
			}
		}
		expect(t, p, 0, 39, full(0))
		if !p.On() {
			t.Errorf("a fuse of %d: off ahead of the next step", n)
		}
		if e := p.Write(0, 39, full(99)); e != api.ErrPower || p.On() || p.Steps() != n+1 {
			t.Errorf("a fuse of %d: %v, on %t, %d steps", n, e, p.On(), p.Steps())
		}
		p.Boot([]int{1})
		expect(t, p, 0, 39, full(0))
		for i := range n {
			if i%3 != 2 {
				expect(t, p, i%2, i, full(byte(i)))
			}
		}
	}
}

// P3.5: at a flush that comes to a fuse of 0 nothing is flushed.
func TestFuseAtAFlush(t *testing.T) {
	p := build(t, 1)
	write1(t, p, 0, 0, full(1))
	p.Fuse(0)
	if e := p.Flush(0); e != api.ErrPower || p.On() || p.Steps() != 1 {
		t.Errorf("Flush: %v, on %t, %d steps", e, p.On(), p.Steps())
	}
	p.Boot(nil)
	expect(t, p, 0, 0, full(0))
}

// P3.4: below 0 there is no fuse any more, and a later fuse stands for the one ahead.
func TestFuseOverFuse(t *testing.T) {
	for _, n := range []int{-1, -2, math.MinInt} {
		p := build(t, 1)
		p.Fuse(0)
		p.Fuse(n)
		for range 10 {
			write1(t, p, 0, 0, full(1))
		}
	}
	for _, x := range [][2]int{{0, 3}, {5, 2}, {math.MaxInt, 1}, {-1, 4}, {1, 0}} {
		p := build(t, 1)
		p.Fuse(x[0])
		p.Fuse(x[1])
		for range x[1] {
			write1(t, p, 0, 0, full(1))
		}
		if e := p.Write(0, 0, full(2)); e != api.ErrPower || p.On() {
			t.Errorf("Fuse(%d), Fuse(%d): %v, on %t", x[0], x[1], e, p.On())
		}
	}
}

// P3.4: it counts from the call on, not from the first step.
func TestFuseBehindSteps(t *testing.T) {
	p := build(t, 1)
	for range 7 {
		write1(t, p, 0, 0, full(1))
	}
	p.Fuse(2)
	write1(t, p, 0, 0, full(2))
	p.Fuse(2)
	flush1(t, p, 0)
	flush1(t, p, 0)
	if e := p.Flush(0); e != api.ErrPower {
		t.Errorf("the third step: %v", e)
	}
}

// P3.4: the greatest fuse does not burn down.
func TestLongFuse(t *testing.T) {
	p := build(t, 1)
	p.Fuse(math.MaxInt)
	for range 1000 {
		write1(t, p, 0, 0, full(1))
	}
	if !p.On() {
		t.Error("the power is off")
	}
}

// P3.4: while the power is off a fuse does nothing, neither then nor behind the boot.
func TestFuseWhileOff(t *testing.T) {
	for _, n := range []int{-1, 0, 1, 2, math.MaxInt, math.MinInt} {
		p := build(t, 1)
		turnOff(t, p)
		p.Fuse(n)
		if p.On() {
			t.Errorf("Fuse(%d) turned the power on", n)
		}
		if e := p.Flush(0); e != api.ErrPower || p.On() {
			t.Errorf("Fuse(%d) while off: %v", n, e)
		}
		p.Boot(nil)
		for range 5 {
			write1(t, p, 0, 0, full(1))
		}
	}
}

// P3.5: what is no step: reads, and what tells of the plant.
func TestNoSteps(t *testing.T) {
	p := build(t, 2)
	write1(t, p, 0, 0, full(1))
	p.Fuse(1)
	for range 5 {
		expect(t, p, 0, 0, full(1))
		p.Len(0)
		p.On()
		p.Steps()
		p.Clone()
	}
	if p.Steps() != 1 {
		t.Errorf("%d steps", p.Steps())
	}
	write1(t, p, 0, 0, full(2))
	if e := p.Write(0, 0, full(3)); e != api.ErrPower {
		t.Errorf("the fuse's end: %v", e)
	}
}

// P3.5, P3.6: a boot leaves the steps, and no fuse.
func TestBootLeavesStepsAndNoFuse(t *testing.T) {
	for _, off := range []bool{false, true} {
		p := build(t, 1)
		for range 3 {
			write1(t, p, 0, 0, full(1))
		}
		if off {
			turnOff(t, p)
		} else {
			p.Fuse(0)
		}
		p.Boot([]int{1, 1})
		if !p.On() || p.Steps() != 3 {
			t.Errorf("off %t: behind a boot: on %t, %d steps", off, p.On(), p.Steps())
		}
		for range 5 {
			write1(t, p, 0, 0, full(2))
		}
		if p.Steps() != 8 {
			t.Errorf("off %t: %d steps", off, p.Steps())
		}
	}
}

// P3.6: one write that waits, over what was flushed: each number's lowest two bits.
func TestBootOfOneWrite(t *testing.T) {
	for _, x := range []struct {
		keep        []int
		first, last byte
	}{
		{nil, 7, 8}, {[]int{}, 7, 8},
		{[]int{0}, 7, 8}, {[]int{1}, 1, 2}, {[]int{2}, 1, 8}, {[]int{3}, 7, 2},
		{[]int{4}, 7, 8}, {[]int{5}, 1, 2}, {[]int{6}, 1, 8}, {[]int{7}, 7, 2},
		{[]int{-1}, 7, 2}, {[]int{-2}, 1, 8}, {[]int{-3}, 1, 2}, {[]int{-4}, 7, 8}, {[]int{-5}, 7, 2},
		{[]int{math.MaxInt}, 7, 2}, {[]int{math.MinInt}, 7, 8}, {[]int{math.MinInt + 1}, 1, 2}, {[]int{1 << 40}, 7, 8},
		{[]int{1, 0, 0}, 1, 2}, {[]int{0, 1, 1}, 7, 8},
		{[]int{1, 2, 3}[:0], 7, 8},
	} {
		for _, off := range []bool{false, true} {
			p := build(t, 3)
			write1(t, p, 0, 1, halves(7, 8))
			flush1(t, p, 0)
			write1(t, p, 0, 1, halves(1, 2))
			if off {
				turnOff(t, p)
			}
			p.Boot(x.keep)
			expect(t, p, 0, 1, halves(x.first, x.last))
			expect(t, p, 0, 0, full(0))
			expect(t, p, 0, 2, full(0))
		}
	}
}

// P3.6: halves are the first 32 bytes, and the last 32, to the byte.
func TestBootOfHalves(t *testing.T) {
	rnd := rand.New(rand.NewSource(1))
	for k, want := range []func(a, b []byte) []byte{
		func(a, b []byte) []byte { return a },
		func(a, b []byte) []byte { return b },
		func(a, b []byte) []byte { return slices.Concat(b[:32], a[32:]) },
		func(a, b []byte) []byte { return slices.Concat(a[:32], b[32:]) },
	} {
		a, b := randomSector(rnd), randomSector(rnd)
		p := build(t, 1)
		write1(t, p, 0, 0, a)
		flush1(t, p, 0)
		write1(t, p, 0, 0, b)
		p.Boot([]int{k})
		expect(t, p, 0, 0, want(a, b))
	}
}

// P3.6: three writes to one sector: all ways to keep them, one behind the other.
func TestBootOfWritesToOneSector(t *testing.T) {
	for n := range 64 {
		keep := []int{n % 4, n / 4 % 4, n / 16}
		first, last := byte(9), byte(9)
		p := build(t, 2)
		write1(t, p, 0, 1, full(9))
		flush1(t, p, 0)
		for i, k := range keep {
			write1(t, p, 0, 1, full(byte(i+1)))
			if k == 1 || k == 2 {
				first = byte(i + 1)
			}
			if k == 1 || k == 3 {
				last = byte(i + 1)
			}
		}
		expect(t, p, 0, 1, full(3))
		p.Boot(keep)
		expect(t, p, 0, 1, halves(first, last))
	}
}

// P3.6: the chapter's example.
func TestBootOfTwoWrites(t *testing.T) {
	p := build(t, 1)
	write1(t, p, 0, 0, full(1))
	write1(t, p, 0, 0, full(2))
	p.Boot([]int{1, 2})
	expect(t, p, 0, 0, halves(2, 1))
}

// P3.6: keep is gone through again and again, from its first number on at each boot.
func TestBootWithAShortKeep(t *testing.T) {
	for _, keep := range [][]int{{1}, {0}, {2}, {3}, {1, 0}, {0, 1}, {3, 1, 0}, {2, 3, 1, 0}, {0, 0, 0, 0, 1}, {-1, 6, 9, -8, 1, 2, 3}, make([]int, 100)} {
		p := build(t, 23)
		for range 2 {
			for place := range 23 {
				write1(t, p, 0, place, full(0))
			}
			flush1(t, p, 0)
			for place := range 23 {
				write1(t, p, 0, place, full(1))
			}
			p.Boot(keep)
			for place := range 23 {
				k := byte(keep[place%len(keep)]) % 4
				expect(t, p, 0, place, halves([]byte{0, 1, 1, 0}[k], []byte{0, 1, 0, 1}[k]))
			}
		}
	}
}

// P3.6: the writes of all disks have one order, that in which they were done, whatever the disks' numbers.
func TestBootOfTwoDisks(t *testing.T) {
	rnd := rand.New(rand.NewSource(2))
	for range 200 {
		p := build(t, 20, 20, 20)
		var devs []int
		for place := range 20 {
			dev := rnd.Intn(3)
			devs = append(devs, dev)
			write1(t, p, dev, place, full(1))
		}
		keep := rnd.Perm(20)
		p.Boot(keep)
		for place, dev := range devs {
			k := keep[place] % 4
			expect(t, p, dev, place, halves([]byte{0, 1, 1, 0}[k], []byte{0, 1, 0, 1}[k]))
		}
	}
}

// P3.6: what was flushed in the midst is counted no more.
func TestBootCountsOnlyWhatWaits(t *testing.T) {
	p := build(t, 4, 4)
	write1(t, p, 1, 0, full(1))
	write1(t, p, 0, 0, full(2))
	write1(t, p, 1, 1, full(3))
	flush1(t, p, 0)
	write1(t, p, 0, 1, full(4))
	write1(t, p, 1, 2, full(5))
	p.Boot([]int{0, 1, 2, 3})
	expect(t, p, 0, 0, full(2))
	expect(t, p, 1, 0, full(0))
	expect(t, p, 1, 1, full(3))
	expect(t, p, 0, 1, halves(4, 0))
	expect(t, p, 1, 2, halves(0, 5))
}

// P3.6: nothing waits behind a boot, and what it kept is flushed.
func TestBootBehindBoot(t *testing.T) {
	p := build(t, 4)
	for place := range 4 {
		write1(t, p, 0, place, halves(1, 2))
	}
	p.Boot([]int{0, 1, 2, 3})
	for _, keep := range [][]int{nil, {1}, {2}, {3}} {
		p.Boot(keep)
		expect(t, p, 0, 0, full(0))
		expect(t, p, 0, 1, halves(1, 2))
		expect(t, p, 0, 2, halves(1, 0))
		expect(t, p, 0, 3, halves(0, 2))
	}
	flush1(t, p, 0)
	expect(t, p, 0, 0, full(0))
	write1(t, p, 0, 0, full(6))
	p.Boot([]int{1, 0, 0, 0, 0})
	expect(t, p, 0, 0, full(6))
}

// P3.6: keep is left, and not read behind its length (R6).
func TestBootLeavesKeep(t *testing.T) {
	p := build(t, 4)
	whole := []int{1, 0, 1, 1}
	for place := range 4 {
		write1(t, p, 0, place, full(1))
	}
	p.Boot(whole[:2])
	if !slices.Equal(whole, []int{1, 0, 1, 1}) {
		t.Errorf("keep was changed: %v", whole)
	}
	for place, c := range []byte{1, 0, 1, 0} {
		expect(t, p, 0, place, full(c))
	}
}

// P3.7: a clone is alike in all: what waits and its order, what is flushed, the fuse, the steps, the power.
func TestCloneIsAlike(t *testing.T) {
	p := build(t, 3, 2)
	write1(t, p, 0, 0, full(1))
	flush1(t, p, 0)
	write1(t, p, 1, 0, full(2))
	write1(t, p, 0, 1, full(3))
	write1(t, p, 1, 1, full(4))
	p.Fuse(1)
	c := p.Clone()
	if !c.On() || c.Steps() != 5 {
		t.Errorf("a clone: on %t, %d steps", c.On(), c.Steps())
	}
	for dev, want := range []int{3, 2} {
		if n, e := c.Len(dev); n != want || e != api.OK {
			t.Errorf("a clone: Len(%d): %d %v", dev, n, e)
		}
	}
	expect(t, c, 0, 0, full(1))
	expect(t, c, 0, 1, full(3))
	expect(t, c, 1, 1, full(4))
	write1(t, c, 0, 2, full(5))
	if e := c.Write(0, 2, full(6)); e != api.ErrPower || c.On() || !p.On() {
		t.Errorf("a clone's fuse: %v, on %t; the first one's on %t", e, c.On(), p.On())
	}
	off := c.Clone()
	if off.On() || off.Steps() != 6 {
		t.Errorf("a clone whose power is off: on %t, %d steps", off.On(), off.Steps())
	}
	off.Boot([]int{1, 0, 2, 3})
	expect(t, off, 0, 0, full(1))
	expect(t, off, 1, 0, full(2))
	expect(t, off, 0, 1, full(0))
	expect(t, off, 1, 1, halves(4, 0))
	expect(t, off, 0, 2, halves(0, 5))
}

// P3.7: a clone and the one it was made of go their own ways, each of them first.
func TestClonesGoTheirOwnWay(t *testing.T) {
	for turn := range 2 {
		p := build(t, 4)
		write1(t, p, 0, 0, full(1))
		flush1(t, p, 0)
		write1(t, p, 0, 1, full(2))
		a, b := p, p.Clone()
		if turn == 1 {
			a, b = b, a
		}
		write1(t, a, 0, 0, full(3))
		write1(t, a, 0, 2, full(4))
		expect(t, b, 0, 0, full(1))
		expect(t, b, 0, 2, full(0))
		write1(t, b, 0, 3, full(5))
		expect(t, a, 0, 3, full(0))
		flush1(t, a, 0)
		a.Fuse(0)
		if a.Steps() != 6 || b.Steps() != 4 {
			t.Errorf("%d and %d steps", a.Steps(), b.Steps())
		}
		write1(t, b, 0, 3, full(6))
		b.Boot([]int{1, 1, 0})
		expect(t, b, 0, 0, full(1))
		expect(t, b, 0, 1, full(2))
		expect(t, b, 0, 3, full(5))
		a.Boot(nil)
		for place, c := range []byte{3, 2, 4, 0} {
			expect(t, a, 0, place, full(c))
		}
	}
}

// P3.7: writes that wait are not one list that both grow.
func TestClonesWithManyWrites(t *testing.T) {
	for n := range 20 {
		p := build(t, 40)
		for place := range n {
			write1(t, p, 0, place, full(1))
		}
		c := p.Clone()
		write1(t, p, 0, 30, full(2))
		write1(t, c, 0, 31, full(3))
		p.Boot([]int{1})
		c.Boot([]int{1})
		expect(t, p, 0, 30, full(2))
		expect(t, p, 0, 31, full(0))
		expect(t, c, 0, 30, full(0))
		expect(t, c, 0, 31, full(3))
	}
}

// P3.8: what was flushed stays in each half to which no write waited, whatever a boot keeps.
func TestFlushedStays(t *testing.T) {
	rnd := rand.New(rand.NewSource(3))
	for range 300 {
		p := build(t, 8)
		was := make([][]byte, 8)
		for place := range was {
			was[place] = randomSector(rnd)
			write1(t, p, 0, place, was[place])
		}
		flush1(t, p, 0)
		first, last := map[int]bool{}, map[int]bool{}
		var keep []int
		for range rnd.Intn(10) {
			place, k := rnd.Intn(8), int(rnd.Uint32())
			write1(t, p, 0, place, randomSector(rnd))
			keep = append(keep, k)
			first[place] = first[place] || k%4 == 1 || k%4 == 2
			last[place] = last[place] || k%4 == 1 || k%4 == 3
		}
		p.Boot(keep)
		for place, want := range was {
			b, e := p.Read(0, place)
			if e != api.OK || bytes.Equal(b[:32], want[:32]) == first[place] || bytes.Equal(b[32:], want[32:]) == last[place] {
				t.Errorf("keep %v: the sector %d: %x, was %x, %v", keep, place, b, want, e)
			}
		}
	}
}

// R6: bytes that are written are not kept, bytes that are read are the caller's, their room too.
func TestBytesAreTheCallers(t *testing.T) {
	p := build(t, 2)
	b := full(1)
	write1(t, p, 0, 0, b)
	if !bytes.Equal(b, full(1)) {
		t.Error("the bytes were changed")
	}
	b[0] = 9
	expect(t, p, 0, 0, full(1))
	for _, flushed := range []bool{false, true} {
		if flushed {
			flush1(t, p, 0)
		}
		for place, want := range [][]byte{full(1), full(0)} {
			r, _ := p.Read(0, place)
			for i := range r[:cap(r)] {
				r[:cap(r)][i] = 8
			}
			expect(t, p, 0, place, want)
		}
	}
	p.Boot(nil)
	expect(t, p, 0, 0, full(1))
	expect(t, p, 0, 1, full(0))
}

// R7: what a clone reads is not what the other one reads.
func TestReadsOfClones(t *testing.T) {
	p := build(t, 1)
	write1(t, p, 0, 0, full(1))
	c := p.Clone()
	a, _ := p.Read(0, 0)
	a[0] = 7
	expect(t, c, 0, 0, full(1))
	expect(t, p, 0, 0, full(1))
}

// plain is a plant in the chapter's own words: all that waits is one list.
type plain struct {
	flushed     [][][]byte
	waits       []plainWrite
	on          bool
	fuse, steps int
}

type plainWrite struct {
	dev, place int
	b          []byte
}

func newPlain(sectors []int) *plain {
	m := &plain{on: true, fuse: -1}
	for _, n := range sectors {
		var d [][]byte
		for range n {
			d = append(d, full(0))
		}
		m.flushed = append(m.flushed, d)
	}
	return m
}

func (m *plain) clone() *plain {
	c := *m
	c.waits = slices.Clone(m.waits)
	c.flushed = nil
	for _, d := range m.flushed {
		c.flushed = append(c.flushed, slices.Clone(d))
	}
	return &c
}

func (m *plain) refuse(dev, place int) api.Errno {
	if !m.on {
		return api.ErrPower
	}
	if dev < 0 || dev >= len(m.flushed) || place < 0 || place >= len(m.flushed[dev]) {
		return api.ErrPlace
	}
	return api.OK
}

func (m *plain) step() api.Errno {
	if m.fuse == 0 {
		m.on, m.fuse = false, -1
		return api.ErrPower
	}
	if m.fuse > 0 {
		m.fuse--
	}
	m.steps++
	return api.OK
}

func (m *plain) read(dev, place int) ([]byte, api.Errno) {
	if e := m.refuse(dev, place); e != api.OK {
		return nil, e
	}
	for _, w := range slices.Backward(m.waits) {
		if w.dev == dev && w.place == place {
			return w.b, api.OK
		}
	}
	return m.flushed[dev][place], api.OK
}

func (m *plain) write(dev, place int, b []byte) api.Errno {
	e := m.refuse(dev, place)
	if e == api.OK && len(b) != 64 {
		e = api.ErrBytes
	}
	if e == api.OK {
		e = m.step()
	}
	if e == api.OK {
		m.waits = append(m.waits, plainWrite{dev, place, bytes.Clone(b)})
	}
	return e
}

func (m *plain) flush(dev int) api.Errno {
	e := m.refuse(dev, 0)
	if e == api.OK {
		e = m.step()
	}
	if e != api.OK {
		return e
	}
	var left []plainWrite
	for _, w := range m.waits {
		if w.dev == dev {
			m.flushed[dev][w.place] = w.b
		} else {
			left = append(left, w)
		}
	}
	m.waits = left
	return api.OK
}

func (m *plain) setFuse(n int) {
	if m.on {
		m.fuse = max(n, -1)
	}
}

func (m *plain) boot(keep []int) {
	m.on, m.fuse = true, -1
	for i, w := range m.waits {
		k := 0
		if len(keep) > 0 {
			k = keep[i%len(keep)]
		}
		was := m.flushed[w.dev][w.place]
		switch [2]bool{k&2 != 0, k&1 != 0} {
		case [2]bool{false, true}:
			was = w.b
		case [2]bool{true, false}:
			was = slices.Concat(w.b[:32], was[32:])
		case [2]bool{true, true}:
			was = slices.Concat(was[:32], w.b[32:])
		}
		m.flushed[w.dev][w.place] = was
	}
	m.waits = nil
}

// alike holds all that can be asked of a plant against the plain one.
func alike(t *testing.T, p *Plant, m *plain) {
	t.Helper()
	if p.On() != m.on || p.Steps() != m.steps {
		t.Fatalf("on %t, %d steps, want %t, %d", p.On(), p.Steps(), m.on, m.steps)
	}
	for dev, d := range m.flushed {
		if n, e := p.Len(dev); n != len(d) || e != api.OK {
			t.Fatalf("Len(%d): %d %v", dev, n, e)
		}
		for place := -1; place <= len(d); place++ {
			b, e := p.Read(dev, place)
			want, we := m.read(dev, place)
			if e != we || !bytes.Equal(b, want) {
				t.Fatalf("Read(%d, %d): %x %v, want %x %v", dev, place, b, e, want, we)
			}
		}
	}
}

// act does something by chance to both, and holds the answers against one another.
func act(t *testing.T, rnd *rand.Rand, p *Plant, m *plain) {
	t.Helper()
	dev, place := rnd.Intn(len(m.flushed)+2)-1, rnd.Intn(6)-1
	switch n := rnd.Intn(100); {
	case n < 65:
		b := randomSector(rnd)[:size-rnd.Intn(20)/19]
		if e, want := p.Write(dev, place, b), m.write(dev, place, b); e != want {
			t.Fatalf("Write(%d, %d) of %d bytes: %v, want %v", dev, place, len(b), e, want)
		}
	case n < 78:
		if e, want := p.Flush(dev), m.flush(dev); e != want {
			t.Fatalf("Flush(%d): %v, want %v", dev, e, want)
		}
	case n < 88:
		fuse := rnd.Intn(12) - 2
		p.Fuse(fuse)
		m.setFuse(fuse)
	default:
		keep := make([]int, rnd.Intn(6))
		for i := range keep {
			keep[i] = int(rnd.Uint64())
		}
		p.Boot(keep)
		m.boot(keep)
	}
}

// P3.1 to P3.8: acts by chance, held against the plain plant, with clones that go on on their own.
func TestPlantIsThePlainOne(t *testing.T) {
	for seed := range int64(150) {
		rnd := rand.New(rand.NewSource(seed))
		sectors := make([]int, rnd.Intn(api.MaxDisks)+1)
		for i := range sectors {
			sectors[i] = rnd.Intn(5) + 1
		}
		plants, plains := []*Plant{build(t, sectors...)}, []*plain{newPlain(sectors)}
		for range 300 {
			i := rnd.Intn(len(plants))
			act(t, rnd, plants[i], plains[i])
			alike(t, plants[i], plains[i])
			if rnd.Intn(60) == 0 {
				plants, plains = append(plants, plants[i].Clone()), append(plains, plains[i].clone())
			}
		}
		for i, p := range plants {
			alike(t, p, plains[i])
		}
	}
}

// Flushes of one disk are quick, however many writes of another one wait.
func TestManyWritesThatWait(t *testing.T) {
	p := build(t, 65536, 1)
	for place := range 65536 {
		write1(t, p, 0, place, halves(byte(place), byte(place>>8)))
	}
	for i := range 65536 {
		write1(t, p, 1, 0, full(byte(i)))
		flush1(t, p, 1)
	}
	p.Boot([]int{1, 0})
	for place := range 65536 {
		want := full(0)
		if place%2 == 0 {
			want = halves(byte(place), byte(place>>8))
		}
		expect(t, p, 0, place, want)
	}
	expect(t, p, 1, 0, full(255))
}
