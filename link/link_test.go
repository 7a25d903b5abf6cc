package link

import (
	"bytes"
	"math/rand"
	"runtime"
	"slices"
	"testing"
	"weak"

	"groat/api"
)

const most = api.MaxFrame

// count are so many bytes, one more each time.
func count(n int) []byte {
	b := make([]byte, n)
	for i := range b {
		b[i] = byte(i + 1)
	}
	return b
}

func randomFrame(rnd *rand.Rand) []byte {
	n := 1 + rnd.Intn(6)
	switch rnd.Intn(6) {
	case 0:
		n = 1 + rnd.Intn(most)
	case 1:
		n = []int{1, 255, 256, 257, 511, most}[rnd.Intn(6)]
	}
	b := make([]byte, n)
	rnd.Read(b)
	return b
}

// line are frames as they stand on a line.
func line(t *testing.T, frames ...[]byte) []byte {
	t.Helper()
	var l []byte
	for _, f := range frames {
		b, e := Pack(f)
		if e != api.OK {
			t.Fatalf("Pack of %d bytes: %v", len(f), e)
		}
		l = append(l, b...)
	}
	return l
}

// expect feeds a link, and holds what it tells against frames, and how many bytes it holds then.
func expect(t *testing.T, l *Link, b []byte, want [][]byte, held int) {
	t.Helper()
	got, e := l.Feed(b)
	if e != api.OK || !slices.EqualFunc(got, want, bytes.Equal) || l.Held() != held {
		t.Fatalf("Feed(%x): %x %v, %d held; want %x, %d held", b, got, e, l.Held(), want, held)
	}
}

// expectLong feeds a link with a length that no frame has among the bytes.
func expectLong(t *testing.T, l *Link, b []byte, want [][]byte) {
	t.Helper()
	got, e := l.Feed(b)
	if e != api.ErrLinkLong || !slices.EqualFunc(got, want, bytes.Equal) || l.Held() != 0 {
		t.Fatalf("Feed(%x): %x %v, %d held; want %x, ErrLinkLong, none held", b, got, e, l.Held(), want)
	}
}

// P6.1
func TestPackOfEachLength(t *testing.T) {
	for n := range 3 * most {
		frame := count(n)
		b, e := Pack(frame)
		if n < 1 || n > 512 {
			if b != nil || e != api.ErrLinkLong {
				t.Errorf("Pack of %d bytes: %x %v", n, b, e)
			}
			continue
		}
		if e != api.OK || len(b) != n+2 || int(b[0]) != n/256 || int(b[1]) != n%256 || !bytes.Equal(b[2:], frame) {
			t.Errorf("Pack of %d bytes: %x %v", n, b, e)
		}
	}
}

// P6.1: the example, nil, and numbers of bytes whose two lowest bytes are a frame's.
func TestPackOfSomeBytes(t *testing.T) {
	if b, e := Pack([]byte("ab")); string(b) != "\x00\x02ab" || e != api.OK {
		t.Errorf("Pack(ab): %x %v", b, e)
	}
	for _, n := range []int{0x10000, 0x10001, 0x10200, 0x10201, 1 << 24, 1<<24 + 1} {
		if b, e := Pack(make([]byte, n)); b != nil || e != api.ErrLinkLong {
			t.Errorf("Pack of %d bytes: %d bytes, %v", n, len(b), e)
		}
	}
	if b, e := Pack(nil); b != nil || e != api.ErrLinkLong {
		t.Errorf("Pack(nil): %x %v", b, e)
	}
}

// P6.1: what is handed in is not changed, not kept, and not read behind its length (R6).
func TestPackLeavesItsBytes(t *testing.T) {
	whole := count(700)
	for _, n := range []int{1, 7, 511, 512} {
		b, e := Pack(whole[:n])
		if e != api.OK || len(b) != n+2 {
			t.Fatalf("Pack of %d bytes: %x %v", n, b, e)
		}
		for i := range b[:cap(b)] {
			b[:cap(b)][i] = 0xee
		}
		if !bytes.Equal(whole, count(700)) {
			t.Fatalf("a change of Pack of %d bytes changed them", n)
		}
	}
	b, _ := Pack(whole[:3])
	clear(whole)
	if string(b) != "\x00\x03\x01\x02\x03" {
		t.Errorf("a change of the bytes changed what Pack told: %x", b)
	}
	if b, e := Pack(whole[:0]); b != nil || e != api.ErrLinkLong {
		t.Errorf("Pack of no bytes, with others behind: %x %v", b, e)
	}
}

// P6.2
func TestExamples(t *testing.T) {
	l := New()
	expect(t, l, []byte{0}, nil, 1)
	expect(t, l, []byte("\x02a"), nil, 3)
	expect(t, l, []byte("b\x00\x01c\x00"), [][]byte{[]byte("ab"), []byte("c")}, 1)
	l = New()
	expectLong(t, l, []byte("\x00\x01a\x00\x00a"), [][]byte{[]byte("a")})
	l = New()
	expectLong(t, l, []byte{2, 1}, nil)
}

// P6.2
func TestNewHoldsNothing(t *testing.T) {
	l := New()
	if l == nil || l.Held() != 0 {
		t.Fatalf("New: %v", l)
	}
	expect(t, l, nil, nil, 0)
	expect(t, l, []byte{}, nil, 0)
	expect(t, l, []byte("\x00\x01a"), [][]byte{[]byte("a")}, 0)
}

// P6.2: links do not know of each other.
func TestLinksAreApart(t *testing.T) {
	a, b := New(), New()
	expect(t, a, []byte("\x00\x03ab"), nil, 4)
	expect(t, b, []byte("\x00\x01x\x00"), [][]byte{[]byte("x")}, 1)
	b.Reset()
	expect(t, a, []byte("c"), [][]byte{[]byte("abc")}, 0)
	expect(t, b, []byte("\x00\x01y"), [][]byte{[]byte("y")}, 0)
}

// P6.2: each length that two bytes can tell.
func TestEachLength(t *testing.T) {
	for n := range 0x10000 {
		l := New()
		told := []byte{byte(n >> 8), byte(n)}
		if n < 1 || n > 512 {
			expectLong(t, l, told, nil)
			continue
		}
		expect(t, l, told, nil, 2)
		expect(t, l, count(n), [][]byte{count(n)}, 0)
	}
}

// P6.2: a length is told by both its bytes: one alone is held, be it what it will.
func TestHalfALength(t *testing.T) {
	for x := range 256 {
		for y := range 256 {
			l := New()
			expect(t, l, []byte{byte(x)}, nil, 1)
			expect(t, l, nil, nil, 1)
			if n := x<<8 | y; n < 1 || n > 512 {
				expectLong(t, l, []byte{byte(y), 0, 1, 'a'}, nil)
			} else {
				expect(t, l, []byte{byte(y)}, nil, 2)
			}
		}
	}
}

// P6.2
func TestHeld(t *testing.T) {
	for _, n := range []int{1, 2, 3, 255, 256, 257, 511, 512} {
		frame := count(n)
		b := line(t, frame)
		for k := range len(b) {
			l := New()
			expect(t, l, b[:k], nil, k)
			expect(t, l, nil, nil, k)
			expect(t, l, b[k:], [][]byte{frame}, 0)
			expect(t, l, append(slices.Clone(b), b[:k]...), [][]byte{frame}, k)
		}
	}
}

// P6.2: the length, and all that is behind it in b, are gone; what is fed then is as to a new link.
func TestBehindAWrongLength(t *testing.T) {
	a, b := count(5), count(512)
	for _, wrong := range [][]byte{{0, 0}, {2, 1}, {2, 2}, {3, 0}, {0xff, 0xff}} {
		for _, behind := range [][]byte{nil, {0}, {0, 1}, line(t, a), line(t, a, b), {0, 0, 0, 0}, make([]byte, 2000)} {
			for k := range wrong {
				l := New()
				expect(t, l, wrong[:k], nil, k)
				expectLong(t, l, slices.Concat(wrong[k:], behind), nil)
				expect(t, l, line(t, a, b), [][]byte{a, b}, 0)
				expectLong(t, l, slices.Concat(line(t, b, a), wrong, behind), [][]byte{b, a})
				expect(t, l, nil, nil, 0)
				expect(t, l, line(t, b)[:100], nil, 100)
				expectLong(t, l, slices.Concat(line(t, b)[100:], wrong, behind), [][]byte{b})
				expect(t, l, line(t, a), [][]byte{a}, 0)
			}
		}
	}
}

// P6.2: bytes of a frame that look like a wrong length are none.
func TestFramesOfAnyBytes(t *testing.T) {
	frames := [][]byte{{0}, {0, 0}, {0xff, 0xff}, {2, 1}, make([]byte, 512), bytes.Repeat([]byte{0xff}, 512), {0, 1}}
	expect(t, New(), line(t, frames...), frames, 0)
	l := New()
	for _, f := range frames {
		b := line(t, f)
		expect(t, l, b[:len(b)-1], nil, len(b)-1)
		expect(t, l, b[len(b)-1:], [][]byte{f}, 0)
	}
}

// P6.2
func TestReset(t *testing.T) {
	frame := count(512)
	b := line(t, frame)
	for k := range len(b) {
		l := New()
		expect(t, l, b[:k], nil, k)
		l.Reset()
		if l.Held() != 0 {
			t.Fatalf("Reset of %d bytes: %d held", k, l.Held())
		}
		l.Reset()
		expect(t, l, []byte("\x00\x01a"), [][]byte{[]byte("a")}, 0)
		expect(t, l, b, [][]byte{frame}, 0)
	}
}

// P6.3: all the ways to cut a line.
func TestAllCuts(t *testing.T) {
	frames := [][]byte{{0}, {0, 0, 3}, {2}, {1, 2}}
	b := line(t, frames...)
	for cuts := range 1 << (len(b) - 1) {
		l := New()
		var got [][]byte
		from := 0
		for i := range b {
			if i == len(b)-1 || cuts>>i&1 == 1 {
				told, e := l.Feed(b[from : i+1])
				if e != api.OK {
					t.Fatalf("cuts %b: %v", cuts, e)
				}
				got = append(got, told...)
				from = i + 1
			}
		}
		if !slices.EqualFunc(got, frames, bytes.Equal) || l.Held() != 0 {
			t.Fatalf("cuts %b: %x, %d held", cuts, got, l.Held())
		}
	}
}

// P6.3: one cut at each place of a line, and a byte at a time; a frame is told as soon as it is whole.
func TestCutsOfLongFrames(t *testing.T) {
	frames := [][]byte{count(512), count(1), count(256), count(255), count(511), count(512)}
	b := line(t, frames...)
	slow := New()
	at, whole := 0, 0 // the frame whose bytes come, and where it began
	for i := range b {
		l := New()
		first, e := l.Feed(b[:i])
		if e != api.OK {
			t.Fatalf("Feed of %d bytes: %v", i, e)
		}
		second, e := l.Feed(b[i:])
		if e != api.OK || !slices.EqualFunc(append(first, second...), frames, bytes.Equal) || l.Held() != 0 {
			t.Fatalf("a cut at %d: %d and %d frames, %v, %d held", i, len(first), len(second), e, l.Held())
		}
		if i+1-whole < 2+len(frames[at]) {
			expect(t, slow, b[i:i+1], nil, i+1-whole)
			continue
		}
		expect(t, slow, b[i:i+1], frames[at:at+1], 0)
		at, whole = at+1, i+1
	}
}

// plain is a link in the chapter's words.
type plain struct{ held []byte }

func (p *plain) feed(b []byte) ([][]byte, api.Errno) {
	p.held = slices.Concat(p.held, b)
	var frames [][]byte
	for len(p.held) > 1 {
		n := int(p.held[0])*256 + int(p.held[1])
		if n == 0 || n > 512 {
			p.held = nil
			return frames, api.ErrLinkLong
		}
		if len(p.held)-2 < n {
			break
		}
		frames = append(frames, slices.Clone(p.held[2:2+n]))
		p.held = slices.Clone(p.held[2+n:])
	}
	return frames, api.OK
}

// randomLine are frames, and now and then bytes that are none, cut off anywhere.
func randomLine(t *testing.T, rnd *rand.Rand) []byte {
	var l []byte
	for range rnd.Intn(8) {
		l = append(l, line(t, randomFrame(rnd))...)
	}
	if rnd.Intn(4) == 0 {
		l = append(l, []byte{byte(rnd.Intn(4)), byte(rnd.Intn(3))}...)
		l = append(l, randomFrame(rnd)...)
	}
	if rnd.Intn(4) == 0 {
		l = l[:rnd.Intn(len(l)+1)]
	}
	return l
}

// P6.2, P6.3: acts by chance, held against a plain link.
func TestActsByChance(t *testing.T) {
	rnd := rand.New(rand.NewSource(6))
	for range 300 {
		l, p := New(), &plain{}
		for range 40 {
			b := randomLine(t, rnd)
			for cut := -1; len(b) > 0 || cut < 0; b = b[cut:] {
				cut = min(len(b), rnd.Intn(1<<rnd.Intn(12)))
				want, wrong := p.feed(b[:cut])
				got, e := l.Feed(b[:cut])
				if e != wrong || !slices.EqualFunc(got, want, bytes.Equal) || l.Held() != len(p.held) {
					t.Fatalf("Feed(%x): %x %v, %d held; want %x %v, %d held", b[:cut], got, e, l.Held(), want, wrong, len(p.held))
				}
			}
			if rnd.Intn(20) == 0 {
				l.Reset()
				p.held = nil
			}
		}
	}
}

// P6.3: frames that were packed are told as they were, however they are cut.
func TestPackedFramesAreTold(t *testing.T) {
	rnd := rand.New(rand.NewSource(7))
	for range 200 {
		var frames, got [][]byte
		for range rnd.Intn(30) {
			frames = append(frames, randomFrame(rnd))
		}
		l, b := New(), line(t, frames...)
		longest := 1 << rnd.Intn(12)
		for len(b) > 0 {
			cut := min(len(b), rnd.Intn(longest+1))
			told, e := l.Feed(b[:cut])
			if e != api.OK {
				t.Fatalf("Feed of %d bytes: %v", cut, e)
			}
			got, b = append(got, told...), b[cut:]
		}
		if !slices.EqualFunc(got, frames, bytes.Equal) || l.Held() != 0 {
			t.Fatalf("%d frames: %d told, %d held", len(frames), len(got), l.Held())
		}
	}
}

// P6.3: a great many frames in one call.
func TestManyFrames(t *testing.T) {
	const n = 1 << 19
	b := bytes.Repeat([]byte{0, 1, 7}, n)
	l := New()
	got, e := l.Feed(append(b, 1))
	if e != api.OK || len(got) != n || l.Held() != 1 {
		t.Fatalf("%d frames, %v, %d held", len(got), e, l.Held())
	}
	for i, f := range got {
		if len(f) != 1 || f[0] != 7 {
			t.Fatalf("the frame %d: %x", i, f)
		}
	}
}

// spoil writes over all that a list has, its spare room too.
func spoil(b []byte) {
	b = b[:cap(b)]
	for i := range b {
		b[i] = 0xee
	}
}

// P6.2: what is handed in is not changed, not kept, and not read behind its length (R6).
func TestFeedLeavesItsBytes(t *testing.T) {
	frames := [][]byte{count(4), count(300), count(512)}
	b := line(t, frames...)
	for k := range len(b) + 1 {
		l := New()
		whole := slices.Clone(b)
		first, e := l.Feed(whole[:k])
		if e != api.OK || !bytes.Equal(whole, b) {
			t.Fatalf("Feed of %d bytes: %v, and they are %x", k, e, whole)
		}
		spoil(whole)
		second, e := l.Feed(slices.Clone(b[k:]))
		if e != api.OK || !slices.EqualFunc(append(first, second...), frames, bytes.Equal) {
			t.Fatalf("bytes that were changed behind Feed of %d: %x %x %v", k, first, second, e)
		}
	}
	l := New()
	room := append(make([]byte, 0, 64), "\x00\x03a"...)
	expect(t, l, room[:1], nil, 1)
	expect(t, l, room[1:2], nil, 2)
	expect(t, l, room[2:3], nil, 3)
	if !bytes.Equal(room[:64], append([]byte("\x00\x03a"), make([]byte, 61)...)) {
		t.Errorf("the room behind a list's length was written: %x", room[:64])
	}
}

// P6.2: what comes out is the caller's, its spare room too: neither other frames nor what is held stand in it (R6).
func TestFramesAreTheCallers(t *testing.T) {
	frames := [][]byte{count(4), {9}, count(300), count(512), {8, 8}}
	b := line(t, frames...)
	last := len(line(t, frames[:4]...))
	for _, k := range []int{last, last + 1, last + 2, last + 3} {
		for i := range frames[:4] {
			l := New()
			got, e := l.Feed(b[:k])
			if e != api.OK || len(got) != 4 {
				t.Fatalf("Feed of %d bytes: %x %v", k, got, e)
			}
			spoil(got[i])
			_ = append(got[i], bytes.Repeat([]byte{0xdd}, 600)...)
			for j, f := range got {
				if j != i && !bytes.Equal(f, frames[j]) {
					t.Errorf("a change of the frame %d made of the frame %d %x", i, j, f)
				}
			}
			expect(t, l, b[k:], frames[4:], 0)
		}
	}
}

// P6.2: frames stay as they were told, whatever is fed then.
func TestFramesStay(t *testing.T) {
	rnd := rand.New(rand.NewSource(8))
	l := New()
	var frames, got [][]byte
	for range 400 {
		frame := randomFrame(rnd)
		b := line(t, frame)
		k := rnd.Intn(len(b))
		for _, piece := range [][]byte{b[:k], b[k:]} {
			told, e := l.Feed(piece)
			if e != api.OK {
				t.Fatal(e)
			}
			got = append(got, told...)
		}
		frames = append(frames, frame)
		if rnd.Intn(5) == 0 {
			wrong, e := l.Feed(slices.Concat(b, []byte{0, 0}))
			if e != api.ErrLinkLong {
				t.Fatal(e)
			}
			got, frames = append(got, wrong...), append(frames, frame)
		}
	}
	if !slices.EqualFunc(got, frames, bytes.Equal) {
		t.Errorf("frames were changed behind their call")
	}
}

// frameMemory feeds a link, and points at the first frame that it tells, without keeping it.
func frameMemory(t *testing.T, l *Link, b []byte, want api.Errno) weak.Pointer[byte] {
	t.Helper()
	got, e := l.Feed(b)
	if e != want || len(got) < 1 {
		t.Fatalf("Feed of %d bytes: %d frames, %v", len(b), len(got), e)
	}
	return weak.Make(&got[0][0])
}

// A link keeps no more than what it holds: not the memory of frames that it told.
func TestLittleIsKept(t *testing.T) {
	frame := line(t, count(512))
	for _, n := range []int{1, 2, 1000} {
		b := bytes.Repeat(frame, n)
		for _, x := range []struct {
			behind []byte
			held   int
			e      api.Errno
		}{{nil, 0, api.OK}, {frame[:1], 1, api.OK}, {frame[:513], 513, api.OK}, {[]byte{0, 0}, 0, api.ErrLinkLong}} {
			l := New()
			told := frameMemory(t, l, slices.Concat(b, x.behind), x.e)
			runtime.GC()
			if told.Value() != nil || l.Held() != x.held {
				t.Errorf("%d frames, with %d held: their memory is kept: %t", n, l.Held(), told.Value() != nil)
			}
		}
	}
}
