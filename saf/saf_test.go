package saf

import (
	"math"
	"math/rand"
	"runtime"
	"slices"
	"strconv"
	"strings"
	"testing"

	"groat/api"
)

const (
	least    = math.MinInt
	greatest = math.MaxInt
)

// told is what Send or Again answers.
type told struct {
	name string
	m    api.Msg
	is   bool
}

// plain is a queue in the chapter's words: what waits, in its order, and whether the first is under way.
type plain struct {
	most  int
	waits []told
	sent  bool
}

func (p *plain) put(name string, m api.Msg) api.Errno {
	for _, x := range p.waits {
		if x.name == name {
			return 161
		}
	}
	if len(p.waits) >= p.most {
		return 3
	}
	p.waits = append(p.waits, told{name, m, true})
	return 0
}

func (p *plain) send() told {
	if len(p.waits) == 0 || p.sent {
		return told{}
	}
	p.sent = true
	return p.waits[0]
}

func (p *plain) again() told {
	if !p.sent {
		return told{}
	}
	return p.waits[0]
}

func (p *plain) done(name string) bool {
	if !p.sent || p.waits[0].name != name {
		return false
	}
	p.sent, p.waits = false, slices.Clone(p.waits[1:])
	return true
}

func (p *plain) clone() *plain { return &plain{p.most, slices.Clone(p.waits), p.sent} }

// message is one of its own for each n: by its type, its fields, and how many they are.
func message(n int) api.Msg {
	m := api.Msg{Type: 220 + n}
	for i := range n % 4 {
		m.F = append(m.F, api.Field{No: 2 + i, Text: strconv.Itoa(n)})
	}
	return m
}

// advices are so many, named a, b, .., with a message of its own each.
func advices(n int) []told {
	var l []told
	for i := range n {
		l = append(l, told{string(rune('a' + i)), message(i), true})
	}
	return l
}

func alike(a, b told) bool {
	return a.name == b.name && a.is == b.is && a.m.Type == b.m.Type && slices.Equal(a.m.F, b.m.F)
}

// short is a text, or as much of it as one can read.
func short(text string) string { return text[:min(len(text), 30)] }

func must(t *testing.T, most int) *Queue {
	t.Helper()
	q, e := New(most)
	if e != api.OK || q == nil {
		t.Fatalf("New(%d): %v", most, e)
	}
	return q
}

func put(t *testing.T, q *Queue, name string, m api.Msg, want api.Errno) {
	t.Helper()
	if e := q.Put(name, m); e != want {
		t.Errorf("Put(%q): %v, want %v", short(name), e, want)
	}
}

func expectTold(t *testing.T, what string, got, want told) {
	t.Helper()
	if !alike(got, want) {
		t.Errorf("%s: %q %v %v, want %q %v %v", what, short(got.name), got.m, got.is, short(want.name), want.m, want.is)
	}
}

func send(t *testing.T, q *Queue, want told) {
	t.Helper()
	name, m, is := q.Send()
	expectTold(t, "Send", told{name, m, is}, want)
}

func again(t *testing.T, q *Queue, want told) {
	t.Helper()
	name, m, is := q.Again()
	expectTold(t, "Again", told{name, m, is}, want)
}

func done(t *testing.T, q *Queue, name string, want bool) {
	t.Helper()
	if is := q.Done(name); is != want {
		t.Errorf("Done(%q): %v, want %v", short(name), is, want)
	}
}

// with is a queue into which some were put, of which the first is under way, or not.
func with(t *testing.T, most int, l []told, sent bool) (*Queue, *plain) {
	t.Helper()
	q, p := must(t, most), &plain{most: most}
	for _, x := range l {
		put(t, q, x.name, x.m, api.OK)
		p.put(x.name, x.m)
	}
	if sent {
		send(t, q, p.send())
	}
	return q, p
}

// expectLike holds a queue against a plain one in all that can be asked without changing it.
func expectLike(t *testing.T, q *Queue, p *plain) {
	t.Helper()
	var names []string
	for _, x := range p.waits {
		names = append(names, x.name)
	}
	if l := q.Names(); !slices.Equal(l, names) {
		t.Errorf("Names: %q, want %q", l, names)
	}
	if q.Len() != len(names) || q.Room() != p.most-len(names) {
		t.Errorf("Len, Room: %d, %d, want %d, %d", q.Len(), q.Room(), len(names), p.most-len(names))
	}
	again(t, q, p.again())
}

// expectAll holds a queue against a plain one to its end, by taking all out of a clone and filling that.
func expectAll(t *testing.T, q *Queue, p *plain) {
	t.Helper()
	expectLike(t, q, p)
	x := q.Clone()
	if p.sent {
		send(t, x, told{})
		done(t, x, p.waits[0].name, true)
	}
	for i, a := range p.waits {
		if i == 0 && p.sent {
			continue
		}
		send(t, x, a)
		done(t, x, a.name, true)
	}
	send(t, x, told{})
	for n := range p.most {
		put(t, x, "new "+strconv.Itoa(n), api.Msg{}, api.OK)
	}
	put(t, x, "one more", api.Msg{}, api.ErrFull)
	expectLike(t, q, p)
}

// The chapter's examples.
func TestExamples(t *testing.T) {
	q := must(t, 2)
	a, b := told{"a", message(1), true}, told{"b", message(2), true}
	send(t, q, told{})
	put(t, q, "a", a.m, api.OK)
	put(t, q, "a", b.m, api.ErrTwice)
	put(t, q, "b", b.m, api.OK)
	put(t, q, "c", b.m, api.ErrFull)
	if q.Room() != 0 {
		t.Error(q.Room())
	}
	send(t, q, a)
	send(t, q, told{})
	again(t, q, a)
	done(t, q, "b", false)
	done(t, q, "a", true)
	send(t, q, b)
	q.Stop()
	again(t, q, told{})
	done(t, q, "b", false)
	send(t, q, b)
}

// The errors' and limits' numbers, as the chapter and DOC.md say them.
func TestNumbers(t *testing.T) {
	got := []int{int(api.ErrArg), int(api.ErrFull), int(api.ErrTwice), api.MaxQueue}
	if want := []int{1, 3, 161, 16}; !slices.Equal(got, want) {
		t.Error(got, want)
	}
}

// P16.1: numbers of advices that no queue is for: below, above, and such as look right in fewer bits.
func TestNoQueue(t *testing.T) {
	for _, most := range []int{least, least + 1, least + 16, -1 << 32, 1 - 1<<32, -257, -256, -255, -17, -16, -2, -1, 0, 17, 18, 32, 255, 256, 257, 264, 272, 1 << 16, 1<<16 + 4, 1 << 32, 1<<32 + 1, 1<<32 + 16, greatest - 1, greatest} {
		if q, e := New(most); q != nil || e != api.ErrArg {
			t.Errorf("New(%d): %v, %v", most, q, e)
		}
	}
}

// P16.1: a new queue of each size is empty, and holds just so many.
func TestNewQueue(t *testing.T) {
	for most := 1; most <= 16; most++ {
		q, p := must(t, most), &plain{most: most}
		expectAll(t, q, p)
		for range 2 {
			send(t, q, told{})
			again(t, q, told{})
			done(t, q, "", false)
			done(t, q, "a", false)
			q.Stop()
			expectAll(t, q, p)
		}
		for _, x := range advices(most) {
			put(t, q, x.name, x.m, p.put(x.name, x.m))
			expectAll(t, q, p)
		}
	}
}

// P16.2: a name that is there, in each place of each row, full or not, is ErrTwice, whatever its message; the one that was there stays.
func TestPutTwice(t *testing.T) {
	for most := 1; most <= 16; most++ {
		for count := 1; count <= most; count++ {
			for _, sent := range []bool{false, true} {
				l := advices(count)
				q, p := with(t, most, l, sent)
				for i, x := range l {
					for _, m := range []api.Msg{x.m, message(i + 1), {}} {
						put(t, q, x.name, m, api.ErrTwice)
					}
				}
				expectAll(t, q, p)
			}
		}
	}
}

// P16.2: no room: ErrFull, whatever the name that is not there, under way or not, and nothing changes.
func TestPutFull(t *testing.T) {
	for most := 1; most <= 16; most++ {
		for _, sent := range []bool{false, true} {
			q, p := with(t, most, advices(most), sent)
			for _, name := range []string{"", "A", "aa", "a ", " a", "\x00", "zz", "\xff"} {
				put(t, q, name, message(1), api.ErrFull)
			}
			expectAll(t, q, p)
		}
	}
}

// P16.2: the room that one has when it is full, and one is done: for one, behind all others.
func TestPutBehindAllOthers(t *testing.T) {
	for most := 1; most <= 16; most++ {
		q, p := with(t, most, advices(most), true)
		for n := range 3 * most {
			first := p.waits[0].name
			put(t, q, first, message(n), api.ErrTwice)
			done(t, q, first, p.done(first))
			expectAll(t, q, p)
			name := "next " + strconv.Itoa(n)
			put(t, q, name, message(n+100), p.put(name, message(n+100)))
			put(t, q, first, message(n), api.ErrFull)
			expectAll(t, q, p)
			send(t, q, p.send())
		}
	}
}

// texts are any, all of them different: an advice is known by its name's text alone.
func texts() []string {
	l := []string{"", " ", "  ", "\x00", "\x00\x00", "\xff", "\xfe", "é", "e\u0301", "\u00e9 ", "４", "a", "A", "a\x00", "\x00a", "a ", " a", "aa", "220 11.000001.0101120000", "420 11.000001.0101120000", "220 11.000001.0101120001", "220  11.000001.0101120000"}
	for n := range 10 { // longer ones that are unlike just at their end, or just at their beginning
		l = append(l, strings.Repeat(".", 5000)+strconv.Itoa(n), strconv.Itoa(n)+strings.Repeat(".", 5000))
	}
	return l
}

// P16.2, P16.3: any two names of any texts: both may be there, and each is done by its own alone.
func TestAnyNames(t *testing.T) {
	all := texts()
	for i, first := range all {
		for _, second := range all[:i] {
			for _, pair := range [][2]string{{first, second}, {second, first}} {
				q := must(t, 2)
				a, b := told{pair[0], message(5), true}, told{pair[1], message(6), true}
				put(t, q, a.name, a.m, api.OK)
				put(t, q, b.name, b.m, api.OK)
				put(t, q, a.name, b.m, api.ErrTwice)
				put(t, q, b.name, a.m, api.ErrTwice)
				send(t, q, a)
				done(t, q, b.name, false)
				again(t, q, a)
				done(t, q, a.name, true)
				send(t, q, b)
				done(t, q, a.name, false)
				again(t, q, b)
			}
		}
	}
}

// P16.2, P16.3: a message is told as it was put, be it one or not: nothing asks what it says.
func TestAnyMessages(t *testing.T) {
	long := make([]api.Field, 5000)
	for i := range long {
		long[i] = api.Field{No: i, Text: strings.Repeat("x", i%100)}
	}
	for _, m := range []api.Msg{
		{},
		{F: []api.Field{}},
		{Type: least}, {Type: -1}, {Type: greatest},
		{Type: 220, F: []api.Field{{}}},
		{Type: 220, F: []api.Field{{}, {}, {}}},
		{Type: 221, F: []api.Field{{No: 11, Text: "000001"}, {No: 7, Text: "0101120000"}}},
		{Type: 420, F: []api.Field{{No: 90, Text: "1"}, {No: 90, Text: "2"}}},
		{Type: 420, F: []api.Field{{No: least, Text: "\x00\xff"}, {No: greatest}}},
		{Type: 220, F: []api.Field{{No: 64, Text: strings.Repeat("4", 100000)}}},
		{Type: 220, F: long},
		{Type: 220, F: long[100:101]},
	} {
		q := must(t, 1)
		put(t, q, "a", m, api.OK)
		for range 3 {
			send(t, q, told{"a", m, true})
			again(t, q, told{"a", m, true})
			q.Stop()
		}
		x := q.Clone()
		send(t, x, told{"a", m, true})
		again(t, x, told{"a", m, true})
	}
}

// P16.3: nothing is told, or done, of a queue in which nothing waits, be it new or one whose last one is done.
func TestNothingWaits(t *testing.T) {
	q := must(t, 3)
	for n := range 5 {
		for range 2 {
			send(t, q, told{})
			again(t, q, told{})
			for _, name := range texts() {
				done(t, q, name, false)
			}
			q.Stop()
		}
		x := told{strconv.Itoa(n), message(n), true}
		put(t, q, x.name, x.m, api.OK)
		send(t, q, x)
		done(t, q, x.name, true)
	}
}

// P16.3: the first one is sent once; it is told again as often as is asked; nothing else waits less for that.
func TestSendAndAgain(t *testing.T) {
	for most := 1; most <= 16; most++ {
		for count := 1; count <= most; count++ {
			q, p := with(t, most, advices(count), false)
			again(t, q, told{})
			again(t, q, told{})
			expectAll(t, q, p)
			for range 3 {
				send(t, q, p.send())
				again(t, q, p.waits[0])
				expectAll(t, q, p)
			}
		}
	}
}

// P16.3: an advice that is told again is done by its own name alone, not by any other, one that waits behind it neither.
func TestDoneWithAnotherName(t *testing.T) {
	for count := 1; count <= 16; count++ {
		l := advices(count)
		q, p := with(t, count, l, true)
		for len(p.waits) > 0 {
			first := p.waits[0].name
			for _, x := range append(l, told{name: ""}, told{name: "A"}, told{name: first + first}, told{name: first + " "}, told{name: " " + first}) {
				if x.name == first {
					continue
				}
				again(t, q, p.waits[0])
				done(t, q, x.name, false)
				again(t, q, p.waits[0])
			}
			expectAll(t, q, p)
			done(t, q, first, p.done(first))
			expectAll(t, q, p)
			again(t, q, told{})
			done(t, q, first, false)
			expectAll(t, q, p)
			send(t, q, p.send())
		}
	}
}

// P16.3: while none is under way none is done, not by the first one's name, nor by any other's.
func TestDoneAheadOfSend(t *testing.T) {
	for count := 1; count <= 16; count++ {
		l := advices(count)
		q, p := with(t, count, l, false)
		for len(p.waits) > 0 {
			for _, x := range l {
				done(t, q, x.name, false)
			}
			again(t, q, told{})
			expectAll(t, q, p)
			send(t, q, p.send())
			first := p.waits[0].name
			done(t, q, first, p.done(first))
		}
	}
}

// P16.3: Stop while one is under way: it is told no more, and not done, till it is sent once more; it keeps its place.
func TestStop(t *testing.T) {
	for count := 1; count <= 16; count++ {
		l := advices(count)
		q, p := with(t, count, l, true)
		for _, first := range l {
			for n := range 3 {
				again(t, q, first)
				for range n + 1 {
					q.Stop()
				}
				p.sent = false
				again(t, q, told{})
				for _, x := range l {
					done(t, q, x.name, false)
				}
				put(t, q, first.name, message(7), api.ErrTwice)
				expectAll(t, q, p)
				send(t, q, first)
				p.sent = true
				send(t, q, told{})
				expectAll(t, q, p)
			}
			done(t, q, first.name, p.done(first.name))
			q.Stop()
			expectAll(t, q, p)
			send(t, q, p.send())
		}
	}
}

// P16.3: Stop while none is under way changes nothing.
func TestStopOfNone(t *testing.T) {
	for count := range 17 {
		q, p := with(t, 16, advices(count), false)
		q.Stop()
		q.Stop()
		expectAll(t, q, p)
		send(t, q, p.send())
		expectAll(t, q, p)
	}
}

// P16.3: what is put, or refused, while one is under way leaves that so.
func TestPutWhileOneIsUnderWay(t *testing.T) {
	l := advices(16)
	for count := 1; count <= 15; count++ {
		q, p := with(t, 16, l[:count], true)
		for _, x := range l[count:] {
			put(t, q, l[0].name, x.m, api.ErrTwice)
			put(t, q, x.name, x.m, p.put(x.name, x.m))
			send(t, q, told{})
			expectAll(t, q, p)
		}
		put(t, q, "z", message(1), api.ErrFull)
		expectAll(t, q, p)
		done(t, q, "a", p.done("a"))
		expectAll(t, q, p)
	}
}

// P16.2: a name that is done may come again, as another advice, behind those that are there.
func TestNameComesAgain(t *testing.T) {
	q, p := with(t, 3, advices(3), true)
	for n := range 20 {
		first := p.waits[0].name
		done(t, q, first, p.done(first))
		put(t, q, first, message(n), p.put(first, message(n)))
		expectAll(t, q, p)
		put(t, q, first, message(n), api.ErrTwice)
		send(t, q, p.send())
	}
}

// P16.4: a clone of each queue is like it, and neither sees what becomes of the other.
func TestClone(t *testing.T) {
	for most := 1; most <= 16; most++ {
		for count := range most + 1 {
			for _, sent := range []bool{false, count > 0} {
				q, p := with(t, most, advices(count), sent)
				x, y := q.Clone(), p.clone()
				expectAll(t, x, y)
				for x.Len() > 0 {
					x.Send()
					if !x.Done(x.Names()[0]) {
						t.Fatal("not done")
					}
				}
				expectAll(t, q, p)
				for n := range most {
					put(t, x, strconv.Itoa(n), message(n+50), api.OK)
				}
				send(t, x, told{"0", message(50), true})
				expectAll(t, q, p)
				z := q.Clone()
				for p.send(); len(p.waits) > 0; p.send() {
					q.Send()
					first := p.waits[0].name
					done(t, q, first, p.done(first))
				}
				expectAll(t, q, p)
				expectAll(t, z, y)
				again(t, x, told{"0", message(50), true})
			}
		}
	}
}

// P16.4: being under way is each one's own, and so is each one's room behind a common row.
func TestClonesSideBySide(t *testing.T) {
	l := advices(3)
	q, p := with(t, 5, l, true)
	x := q.Clone()
	y := x.Clone()
	x.Stop()
	again(t, x, told{})
	again(t, q, l[0])
	again(t, y, l[0])
	done(t, x, "a", false)
	done(t, y, "a", true)
	expectAll(t, q, p)
	for _, c := range []struct {
		q    *Queue
		name string
		n    int
	}{{q, "q", 10}, {x, "x", 20}, {y, "y", 30}} {
		put(t, c.q, c.name, message(c.n), api.OK)
		put(t, c.q, c.name+c.name, message(c.n+1), api.OK)
	}
	own := func(name string, n int) []told {
		return []told{{name, message(n), true}, {name + name, message(n + 1), true}}
	}
	expectAll(t, q, &plain{5, append(l[0:3:3], own("q", 10)...), true})
	expectAll(t, x, &plain{5, append(l[0:3:3], own("x", 20)...), false})
	expectAll(t, y, &plain{5, append(l[1:3:3], own("y", 30)...), false})
}

// step does one of nine things to a queue and to a plain one, and tells whether both answer the same.
func step(q *Queue, p *plain, what int) bool {
	names := []string{"a", "b", "c"}
	switch what {
	case 0, 1, 2:
		return q.Put(names[what], message(what+1)) == p.put(names[what], message(what+1))
	case 3, 4, 5:
		return q.Done(names[what-3]) == p.done(names[what-3])
	case 6:
		name, m, is := q.Send()
		return alike(told{name, m, is}, p.send())
	case 7:
		name, m, is := q.Again()
		return alike(told{name, m, is}, p.again())
	}
	q.Stop()
	p.sent = false
	return true
}

// P16.1 to P16.5: all orders of a few calls, each behind a clone of what was ahead.
func TestAllOrders(t *testing.T) {
	const calls = 5
	var walk func(q *Queue, p *plain, past []int)
	walk = func(q *Queue, p *plain, past []int) {
		expectLike(t, q, p)
		if len(past) == calls || t.Failed() {
			return
		}
		for what := range 9 {
			x, y := q.Clone(), p.clone()
			now := append(past[:len(past):len(past)], what)
			if !step(x, y, what) {
				t.Error(p.most, now)
				return
			}
			walk(x, y, now)
		}
		expectLike(t, q, p)
	}
	for most := 1; most <= 3; most++ {
		walk(must(t, most), &plain{most: most}, nil)
	}
}

// P16.5: whatever else is asked, advices are done in the order in which they were let in, all of them, each once.
func TestNoneIsLostNoneGoesTwice(t *testing.T) {
	for seed := range int64(100) {
		rnd := rand.New(rand.NewSource(seed))
		q := must(t, 1+rnd.Intn(16))
		var in, out []string
		for n := 0; len(out) < 200; n++ {
			name := strconv.Itoa(n)
			switch rnd.Intn(6) {
			case 0, 1:
				if q.Put(name, api.Msg{Type: n}) == api.OK {
					in = append(in, name)
				}
			case 2, 3:
				q.Send()
			case 4:
				name, m, is := q.Again()
				if is && strconv.Itoa(m.Type) != name {
					t.Fatal(name, m)
				}
				if is && q.Done(name) {
					out = append(out, name)
				}
			case 5:
				if rnd.Intn(4) == 0 {
					q.Stop()
				}
				if rnd.Intn(20) == 0 {
					q = q.Clone()
				}
			}
		}
		if all := append(out, q.Names()...); !slices.Equal(all, in) {
			t.Fatalf("seed %d: %q, let in %q", seed, all, in)
		}
	}
}

// anyCall does one call by chance to a queue and to a plain one.
func anyCall(t *testing.T, rnd *rand.Rand, q *Queue, p *plain, answers map[string]int) {
	t.Helper()
	name := strconv.Itoa(rnd.Intn(20))
	if len(p.waits) > 0 && rnd.Intn(2) == 0 {
		name = p.waits[0].name
	}
	switch rnd.Intn(9) {
	case 0, 1, 2, 3:
		m := message(rnd.Intn(1000))
		want := p.put(name, m)
		answers["Put "+strconv.Itoa(int(want))]++
		put(t, q, name, m, want)
	case 4, 5:
		want := p.send()
		answers["Send "+strconv.FormatBool(want.is)]++
		send(t, q, want)
	case 6:
		want := p.again()
		answers["Again "+strconv.FormatBool(want.is)]++
		again(t, q, want)
	case 7:
		want := p.done(name)
		answers["Done "+strconv.FormatBool(want)]++
		done(t, q, name, want)
	case 8:
		if rnd.Intn(3) == 0 {
			q.Stop()
			p.sent = false
		}
	}
}

// P16.1 to P16.5: calls by chance, on queues and their clones, held against plain ones.
func TestByChance(t *testing.T) {
	answers := map[string]int{}
	for seed := range int64(160) {
		rnd := rand.New(rand.NewSource(seed))
		most := 1 + int(seed)%16
		queues, plains := []*Queue{must(t, most)}, []*plain{{most: most}}
		for range 400 {
			at := rnd.Intn(len(queues))
			anyCall(t, rnd, queues[at], plains[at], answers)
			if len(queues) < 4 && rnd.Intn(60) == 0 {
				queues = append(queues, queues[at].Clone())
				plains = append(plains, plains[at].clone())
			}
			for i, q := range queues {
				expectLike(t, q, plains[i])
			}
			if t.Failed() {
				t.Fatal("seed", seed)
			}
		}
		for i, q := range queues {
			expectAll(t, q, plains[i])
		}
	}
	for _, answer := range []string{"Put 0", "Put 3", "Put 161", "Send true", "Send false", "Again true", "Again false", "Done true", "Done false"} {
		if answers[answer] < 500 {
			t.Error(answer, "only", answers[answer], "times")
		}
	}
}

// R6: a message that is put is not changed, not kept, and not read behind its length.
func TestWhatIsHandedIn(t *testing.T) {
	want := []api.Field{{No: 2, Text: "x"}, {No: 3, Text: "y"}, {No: 4, Text: "z"}}
	room := slices.Clone(want)
	q := must(t, 2)
	put(t, q, "a", api.Msg{Type: 220, F: room[:2]}, api.OK)
	put(t, q, "b", api.Msg{Type: 420, F: room[:0]}, api.OK)
	put(t, q, "a", api.Msg{Type: 221, F: room}, api.ErrTwice)
	put(t, q, "c", api.Msg{Type: 221, F: room}, api.ErrFull)
	a := told{"a", api.Msg{Type: 220, F: want[:2]}, true}
	send(t, q, a)
	if !slices.Equal(room, want) {
		t.Error("changed", room)
	}
	for i := range room {
		room[i] = api.Field{No: 99, Text: "other"}
	}
	again(t, q, a)
	again(t, q.Clone(), a)
	done(t, q, "a", true)
	send(t, q, told{"b", api.Msg{Type: 420}, true})
}

// scribble writes over all that a list holds, its spare room too.
func scribble(l []api.Field) {
	l = l[:cap(l)]
	for i := range l {
		l[i] = api.Field{No: 99, Text: "other"}
	}
}

// R6: what is told is the caller's: it may be written over, spare room and all, and nobody else sees that.
func TestWhatComesOut(t *testing.T) {
	l := advices(8)
	q, p := with(t, 8, l, false)
	x := q.Clone()
	for range l {
		first := p.waits[0]
		_, sent, _ := q.Send()
		_, once, _ := q.Again()
		_, twice, _ := q.Again()
		x.Send()
		_, others, _ := x.Again()
		scribble(sent.F)
		expectTold(t, "Again", told{first.name, once, true}, first)
		scribble(once.F)
		expectTold(t, "Again", told{first.name, twice, true}, first)
		scribble(twice.F)
		expectTold(t, "a clone's Again", told{first.name, others, true}, first)
		scribble(others.F)
		names := q.Names()
		more := q.Names()
		names = names[:cap(names)]
		for i := range names {
			names[i] = "other"
		}
		if len(more) != len(p.waits) || more[0] != first.name {
			t.Errorf("Names: %q", more)
		}
		p.send()
		expectAll(t, q, p)
		expectAll(t, x, p)
		x.Done(first.name)
		done(t, q, first.name, p.done(first.name))
	}
}

func inUse() uint64 {
	var m runtime.MemStats
	runtime.GC()
	runtime.ReadMemStats(&m)
	return m.HeapAlloc
}

// expectLittle holds that less than an eighth of some bytes came into use since.
func expectLittle(t *testing.T, before uint64, bytes int) {
	t.Helper()
	if after := inUse(); after > before+uint64(bytes/8) {
		t.Errorf("%d bytes more are in use", after-before)
	}
}

// R6: of texts that are pieces of long ones, a name or a field's, the long ones are not kept.
func TestLongTextsAreNotKept(t *testing.T) {
	const size = 1 << 20
	q := must(t, 16)
	before := inUse()
	for n := range 16 {
		name := strings.Repeat(" ", size) + strconv.Itoa(n)
		text := strings.Repeat(" ", size) + "text"
		put(t, q, name[size:], api.Msg{F: []api.Field{{Text: "short"}, {Text: text[size:]}}}, api.OK)
	}
	expectLittle(t, before, 16*size)
	send(t, q, told{"0", api.Msg{F: []api.Field{{Text: "short"}, {Text: "text"}}}, true})
	done(t, q, "0", true)
	send(t, q, told{"1", api.Msg{F: []api.Field{{Text: "short"}, {Text: "text"}}}, true})
}

// What is kept is no more than what waits: not what is done, nor what was refused, nor what was once asked.
func TestNothingIsKeptOfWhatIsDone(t *testing.T) {
	const size = 1 << 20
	q := must(t, 16)
	before := inUse()
	for range 3 {
		for n := range 16 {
			put(t, q, strconv.Itoa(n)+strings.Repeat(" ", size), api.Msg{F: []api.Field{{Text: strings.Repeat("x", size)}}}, api.OK)
		}
		put(t, q, strings.Repeat(" ", size), api.Msg{F: make([]api.Field, size/8)}, api.ErrFull)
		for _, name := range q.Names() {
			q.Send()
			done(t, q, name, true)
		}
	}
	expectLittle(t, before, 16*size)
	for n := range 5000 {
		put(t, q, strconv.Itoa(n), api.Msg{F: make([]api.Field, 500)}, api.OK)
		q.Send()
		q.Again()
		done(t, q, strconv.Itoa(n), true)
	}
	expectLittle(t, before, 5000*500*24)
	x := q.Clone()
	if q.Len() != 0 || x.Len() != 0 {
		t.Error(q.Len(), x.Len())
	}
}
