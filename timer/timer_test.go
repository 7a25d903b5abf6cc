package timer

import (
	"math"
	"math/rand"
	"runtime"
	"slices"
	"strconv"
	"strings"
	"testing"

	"groat/api"
)

const (
	least    = math.MinInt
	greatest = math.MaxInt
	maxClock = 1 << 50
)

// wrongTicks are below and above, and such as look right in fewer bits.
var wrongTicks = []int{least, least + 1, least + 5, -1 << 51, -maxClock - 1, -maxClock, -1 << 32, 5 - 1<<32, -1000, -5, -2, -1, maxClock + 1, maxClock + 2, maxClock + 1000, 2 * maxClock, 1<<51 + 5, 1 << 62, greatest - maxClock, greatest - 1, greatest}

// clocks are times at which the clock may stand, to both ends.
var clocks = []int{0, 1, 2, 1000, 1 << 16, 1<<31 - 1, 1 << 31, 1 << 32, 1<<32 + 5, maxClock / 2, maxClock - 1000, maxClock - 2, maxClock - 1, maxClock}

// plain are timers in the chapter's words: a clock, and what is due in any order.
type plain struct {
	now    int
	things []api.Due
}

func (p *plain) find(key string, kind int) int {
	for i, d := range p.things {
		if d.Key == key && d.Kind == kind {
			return i
		}
	}
	return -1
}

func (p *plain) drop(key string, kind int) bool {
	i := p.find(key, kind)
	if i < 0 {
		return false
	}
	p.things = append(slices.Clone(p.things[:i]), p.things[i+1:]...)
	return true
}

func (p *plain) set(key string, kind, ticks int) api.Errno {
	if ticks < 0 || ticks > maxClock {
		return 1
	}
	at := p.now + ticks
	if at > maxClock {
		at = maxClock
	}
	p.drop(key, kind)
	p.things = append(p.things, api.Due{At: at, Key: key, Kind: kind})
	return 0
}

// ahead tells whether a comes ahead of b: earlier, or at once and of the lesser key, or of one key and of the lesser kind.
func ahead(a, b api.Due) bool {
	if a.At != b.At {
		return a.At < b.At
	}
	for i := 0; i < len(a.Key) && i < len(b.Key); i++ {
		if a.Key[i] != b.Key[i] {
			return a.Key[i] < b.Key[i]
		}
	}
	if len(a.Key) != len(b.Key) {
		return len(a.Key) < len(b.Key)
	}
	return a.Kind < b.Kind
}

func (p *plain) front() (api.Due, bool) {
	if len(p.things) == 0 {
		return api.Due{}, false
	}
	first := p.things[0]
	for _, d := range p.things {
		if ahead(d, first) {
			first = d
		}
	}
	return first, true
}

func (p *plain) goTo(to int) {
	if first, is := p.front(); is && first.At < to {
		to = first.At
	}
	if to > maxClock {
		to = maxClock
	}
	if to > p.now {
		p.now = to
	}
}

func (p *plain) due() (api.Due, bool) {
	first, is := p.front()
	if !is || first.At > p.now {
		return api.Due{}, false
	}
	p.drop(first.Key, first.Kind)
	return first, true
}

func (p *plain) clone() *plain { return &plain{p.now, slices.Clone(p.things)} }

// short is a text, or as much of it as one can read.
func short(text string) string { return text[:min(len(text), 30)] }

func set(t *testing.T, x *Timers, key string, kind, ticks int, want api.Errno) {
	t.Helper()
	if e := x.Set(key, kind, ticks); e != want {
		t.Errorf("Set(%q, %d, %d): %v, want %v", short(key), kind, ticks, e, want)
	}
}

func drop(t *testing.T, x *Timers, key string, kind int, want bool) {
	t.Helper()
	if is := x.Drop(key, kind); is != want {
		t.Errorf("Drop(%q, %d): %v, want %v", short(key), kind, is, want)
	}
}

func due(t *testing.T, x *Timers, want api.Due) {
	t.Helper()
	if d, is := x.Due(); !is || d != want {
		t.Errorf("Due: %d %q %d %v, want %d %q %d", d.At, short(d.Key), d.Kind, is, want.At, short(want.Key), want.Kind)
	}
}

func notDue(t *testing.T, x *Timers) {
	t.Helper()
	if d, is := x.Due(); is || d != (api.Due{}) {
		t.Errorf("Due: %d %q %d %v, want nothing", d.At, short(d.Key), d.Kind, is)
	}
}

func goTo(t *testing.T, x *Timers, to, want int) {
	t.Helper()
	x.Go(to)
	if now := x.Now(); now != want {
		t.Errorf("Go(%d): %d, want %d", to, now, want)
	}
}

func expectFirst(t *testing.T, x *Timers, want int, there bool) {
	t.Helper()
	if at, is := x.First(); at != want || is != there {
		t.Errorf("First: %d, %v, want %d, %v", at, is, want, there)
	}
}

// expectLike holds timers against plain ones in all that can be asked without changing them.
func expectLike(t *testing.T, x *Timers, p *plain) {
	t.Helper()
	if x.Now() != p.now || x.Len() != len(p.things) {
		t.Errorf("Now, Len: %d, %d, want %d, %d", x.Now(), x.Len(), p.now, len(p.things))
	}
	first, is := p.front()
	expectFirst(t, x, first.At, is)
}

// expectAll holds timers against plain ones to their end, by letting all of a clone become due, each no tick too early.
func expectAll(t *testing.T, x *Timers, p *plain) {
	t.Helper()
	expectLike(t, x, p)
	y := x.Clone()
	now := p.now
	rest := slices.Clone(p.things)
	slices.SortFunc(rest, func(a, b api.Due) int {
		if ahead(a, b) {
			return -1
		}
		return 1
	})
	for _, d := range rest {
		if d.At > now {
			notDue(t, y)
			goTo(t, y, d.At-1, d.At-1)
			notDue(t, y)
			goTo(t, y, greatest, d.At)
			now = d.At
		}
		due(t, y, d)
	}
	notDue(t, y)
	expectFirst(t, y, 0, false)
	goTo(t, y, greatest, maxClock)
	expectLike(t, x, p)
}

// both sets one thing in timers and in plain ones.
func both(t *testing.T, x *Timers, p *plain, key string, kind, ticks int) {
	t.Helper()
	set(t, x, key, kind, ticks, p.set(key, kind, ticks))
}

// numbered are timers, and plain ones, of a thing for each of some ticks, with the keys a, b, ..
func numbered(t *testing.T, ticks ...int) (*Timers, *plain) {
	t.Helper()
	x, p := New(), &plain{}
	for i, n := range ticks {
		both(t, x, p, string(rune('a'+i)), 1, n)
	}
	return x, p
}

// The chapter's examples.
func TestExamples(t *testing.T) {
	x := New()
	set(t, x, "b", 1, 5, api.OK)
	set(t, x, "a", 1, 5, api.OK)
	set(t, x, "c", 1, 2, api.OK)
	goTo(t, x, 9, 2)
	due(t, x, api.Due{At: 2, Key: "c", Kind: 1})
	notDue(t, x)
	goTo(t, x, 9, 5)
	due(t, x, api.Due{At: 5, Key: "a", Kind: 1})
	due(t, x, api.Due{At: 5, Key: "b", Kind: 1})
	notDue(t, x)
	goTo(t, x, 9, 9)
	goTo(t, x, 3, 9)
	set(t, x, "a", 1, -1, api.ErrArg)
}

// The error's and the limit's numbers, as the chapter and DOC.md say them.
func TestNumbers(t *testing.T) {
	if api.ErrArg != 1 || api.OK != 0 || api.MaxClock != maxClock {
		t.Error(int(api.ErrArg), int(api.OK), api.MaxClock)
	}
}

// P17.1: new timers stand at 0, nothing is due, and none know of the others.
func TestNew(t *testing.T) {
	for range 3 {
		x := New()
		expectAll(t, x, &plain{})
		for range 2 {
			notDue(t, x)
			drop(t, x, "", 0, false)
			drop(t, x, "a", 1, false)
			expectAll(t, x, &plain{})
		}
		set(t, x, "a", 1, 5, api.OK)
		goTo(t, x, 3, 3)
		expectAll(t, x, &plain{3, []api.Due{{At: 5, Key: "a", Kind: 1}}})
	}
}

// P17.1: Len counts what is set, come to its time or not, once a key and kind; not what was dropped, was told, or was refused.
func TestLen(t *testing.T) {
	x := New()
	for i, step := range []struct {
		act  func()
		want int
	}{
		{func() { set(t, x, "a", 1, 0, api.OK) }, 1},
		{func() { set(t, x, "a", 2, 5, api.OK) }, 2},
		{func() { set(t, x, "b", 1, maxClock, api.OK) }, 3},
		{func() { set(t, x, "b", 1, 3, api.OK) }, 3},
		{func() { set(t, x, "c", 1, -1, api.ErrArg) }, 3},
		{func() { drop(t, x, "c", 1, false) }, 3},
		{func() { x.Go(1) }, 3},
		{func() { x.Due() }, 2},
		{func() { x.Due() }, 2},
		{func() { x.Go(3) }, 2},
		{func() { drop(t, x, "b", 1, true) }, 1},
		{func() { drop(t, x, "b", 1, false) }, 1},
		{func() { x.Go(9) }, 1},
		{func() { set(t, x, "a", 2, 0, api.OK) }, 1},
		{func() { x.Due() }, 0},
		{func() { x.Due() }, 0},
	} {
		step.act()
		if x.Len() != step.want {
			t.Errorf("step %d: %d, want %d", i, x.Len(), step.want)
		}
	}
}

// P17.2: ticks that may not be are ErrArg at each clock, for a thing that is there and for one that is not, and nothing changes.
func TestWrongTicks(t *testing.T) {
	for _, now := range clocks {
		x, p := New(), &plain{now: now}
		goTo(t, x, now, now)
		for _, n := range wrongTicks {
			set(t, x, "a", 1, n, api.ErrArg)
			expectLike(t, x, p)
		}
		both(t, x, p, "a", 1, 7)
		both(t, x, p, "b", 1, 3)
		both(t, x, p, "c", 1, 0)
		for _, n := range wrongTicks {
			for _, key := range []string{"a", "b", "c", "d", ""} {
				set(t, x, key, 1, n, api.ErrArg)
				set(t, x, key, n, n, api.ErrArg)
			}
			expectAll(t, x, p)
		}
	}
}

// P17.2: each clock and all ticks about both ends: due so many ticks on, at MaxClock at the latest.
func TestTicks(t *testing.T) {
	for _, now := range clocks {
		for _, n := range clocks {
			x, p := New(), &plain{now: now}
			goTo(t, x, now, now)
			both(t, x, p, "a", 1, n)
			expectFirst(t, x, min(now+n, maxClock), true)
			expectAll(t, x, p)
			if n > 0 && now < maxClock {
				notDue(t, x)
			}
			goTo(t, x, greatest, min(now+n, maxClock))
			due(t, x, api.Due{At: min(now+n, maxClock), Key: "a", Kind: 1})
			notDue(t, x)
		}
	}
}

// P17.2: 0 ticks: it is due at once, and the clock does not go on ahead of it.
func TestNoTicks(t *testing.T) {
	for _, now := range clocks {
		x := New()
		goTo(t, x, now, now)
		set(t, x, "a", 1, 0, api.OK)
		goTo(t, x, greatest, now)
		due(t, x, api.Due{At: now, Key: "a", Kind: 1})
		notDue(t, x)
		goTo(t, x, greatest, maxClock)
	}
}

// P17.2: what would be due behind MaxClock is due at it, all of it at once, in the order of its keys.
func TestAtMaxClock(t *testing.T) {
	x := New()
	goTo(t, x, maxClock-5, maxClock-5)
	for i, n := range []int{maxClock, 5, 6, 1000, maxClock - 1} {
		set(t, x, string(rune('e'-i)), 1, n, api.OK)
	}
	set(t, x, "z", 1, 4, api.OK)
	goTo(t, x, greatest, maxClock-1)
	due(t, x, api.Due{At: maxClock - 1, Key: "z", Kind: 1})
	notDue(t, x)
	goTo(t, x, greatest, maxClock)
	for _, key := range []string{"a", "b", "c", "d", "e"} {
		due(t, x, api.Due{At: maxClock, Key: key, Kind: 1})
	}
	notDue(t, x)
	set(t, x, "b", 1, maxClock, api.OK)
	set(t, x, "a", 1, 1, api.OK)
	due(t, x, api.Due{At: maxClock, Key: "a", Kind: 1})
	due(t, x, api.Due{At: maxClock, Key: "b", Kind: 1})
	notDue(t, x)
	goTo(t, x, greatest, maxClock)
}

// P17.2: each of some things is set anew to each time: earlier, later, the same; it is due then and not when it was to be, and all others are as they were.
func TestSetInThePlace(t *testing.T) {
	for count := 1; count <= 12; count++ {
		rnd := rand.New(rand.NewSource(int64(count)))
		for _, ticks := range [][]int{rnd.Perm(count), slices.Repeat([]int{3}, count)} {
			for i := range count {
				for n := range count + 2 {
					x, p := numbered(t, ticks...)
					both(t, x, p, string(rune('a'+i)), 1, n)
					expectAll(t, x, p)
					if x.Len() != count {
						t.Error(x.Len())
					}
					both(t, x, p, string(rune('a'+i)), 1, maxClock)
					expectAll(t, x, p)
				}
			}
		}
	}
}

// P17.2: what is set anew counts from the clock as it is by then, not from when it was set first.
func TestSetAnewLater(t *testing.T) {
	x := New()
	set(t, x, "a", 1, 5, api.OK)
	goTo(t, x, 3, 3)
	set(t, x, "a", 1, 5, api.OK)
	expectFirst(t, x, 8, true)
	goTo(t, x, 8, 8)
	set(t, x, "a", 1, 5, api.OK) // it had come to its time, and was not told
	notDue(t, x)
	goTo(t, x, 100, 13)
	due(t, x, api.Due{At: 13, Key: "a", Kind: 1})
	notDue(t, x)
	set(t, x, "a", 1, 5, api.OK) // it was told, and comes again
	goTo(t, x, 100, 18)
	due(t, x, api.Due{At: 18, Key: "a", Kind: 1})
	notDue(t, x)
}

// kinds are any numbers, such as are alike in fewer bits too.
var kinds = []int{least, least + 1, -1 << 32, -257, -256, -2, -1, 0, 1, 2, 255, 256, 257, 1 << 31, 1 << 32, 1<<32 + 1, greatest - 1, greatest}

// texts are any, all of them different, as bytes by rising order.
func texts() []string {
	l := []string{"", " ", "  ", "\x00", "\x00\x00", "\xff", "\xfe", "\x7f", "\x80", "é", "e\u0301", "４", "10", "9", "0", "1", "a", "A", "a\x00", "\x00a", "a ", " a", "aa", "b", "11.000001.0101120000", "11.000001.0101120001", "11.000002.0101120000"}
	for n := range 10 { // longer ones that are unlike just at their end, or just at their beginning
		l = append(l, strings.Repeat(".", 3000)+strconv.Itoa(n), strconv.Itoa(n)+strings.Repeat(".", 3000))
	}
	slices.SortFunc(l, func(a, b string) int {
		if ahead(api.Due{Key: a}, api.Due{Key: b}) {
			return -1
		}
		return 1
	})
	return l
}

// P17.2: a thing is known by its key's text and its kind, both: of other ones nothing is replaced, nothing is dropped.
func TestAnyNames(t *testing.T) {
	all := texts()
	for i, first := range all {
		for j, second := range all {
			for _, kind := range []int{0, 1} {
				if i == j && kind == 0 {
					continue
				}
				x := New()
				set(t, x, first, 0, 5, api.OK)
				drop(t, x, second, kind, false)
				set(t, x, second, kind, 3, api.OK)
				expectFirst(t, x, 3, true)
				drop(t, x, second, kind, true)
				drop(t, x, second, kind, false)
				expectFirst(t, x, 5, true)
				set(t, x, second, kind, 6, api.OK)
				drop(t, x, first, 0, true)
				drop(t, x, first, 0, false)
				goTo(t, x, 100, 6)
				due(t, x, api.Due{At: 6, Key: second, Kind: kind})
				drop(t, x, second, kind, false)
			}
		}
	}
}

// P17.2: any two kinds of one key are two things.
func TestAnyKinds(t *testing.T) {
	for _, first := range kinds {
		for _, second := range kinds {
			if first == second {
				continue
			}
			x := New()
			set(t, x, "a", first, 5, api.OK)
			drop(t, x, "a", second, false)
			set(t, x, "a", second, 3, api.OK)
			if x.Len() != 2 {
				t.Error(first, second, x.Len())
			}
			goTo(t, x, 9, 3)
			due(t, x, api.Due{At: 3, Key: "a", Kind: second})
			goTo(t, x, 9, 5)
			drop(t, x, "a", second, false)
			due(t, x, api.Due{At: 5, Key: "a", Kind: first})
		}
	}
}

// P17.3: several that are due at once come by rising keys, as bytes, and those of one key by rising kinds, in whatever order they were set.
func TestAtOnce(t *testing.T) {
	for seed := range int64(20) {
		rnd := rand.New(rand.NewSource(seed))
		now := clocks[rnd.Intn(len(clocks))]
		var want []api.Due
		for _, key := range texts() {
			for _, kind := range kinds {
				want = append(want, api.Due{At: min(now+7, maxClock), Key: key, Kind: kind})
			}
		}
		x := New()
		goTo(t, x, now, now)
		for _, i := range rnd.Perm(len(want)) {
			set(t, x, want[i].Key, want[i].Kind, rnd.Intn(100), api.OK)
		}
		for _, i := range rnd.Perm(len(want)) {
			set(t, x, want[i].Key, want[i].Kind, 7, api.OK)
		}
		goTo(t, x, greatest, min(now+7, maxClock))
		for i, d := range want {
			if x.Len() != len(want)-i {
				t.Fatal(x.Len(), len(want)-i)
			}
			due(t, x, d)
			if t.Failed() {
				t.Fatal("seed", seed)
			}
		}
		notDue(t, x)
	}
}

// P17.3: the time comes ahead of the key, and the key ahead of the kind.
func TestTimeThenKeyThenKind(t *testing.T) {
	x, p := New(), &plain{}
	for _, n := range []int{2, 0, 1} {
		for _, key := range []string{"a", "c", "b"} {
			for _, kind := range []int{1, -1, 0} {
				both(t, x, p, key+strconv.Itoa(n), kind, 3-n)
				both(t, x, p, key, kind*10+n, n)
			}
		}
	}
	expectAll(t, x, p)
}

// P17.3: all orders in which five things may be set, of all times of three: each is due at its own, and First is the least of them at each step.
func TestAllWaysToSet(t *testing.T) {
	for code := range 3 * 3 * 3 * 3 * 3 {
		var ticks []int
		for n := code; len(ticks) < 5; n /= 3 {
			ticks = append(ticks, n%3)
		}
		x, p := New(), &plain{}
		for i, n := range ticks {
			both(t, x, p, string(rune('a'+(i*2+code)%5)), 1, n)
			expectLike(t, x, p)
		}
		expectAll(t, x, p)
	}
}

// P17.3: First and Due change nothing while nothing is due; a thing is due at its time, and at no tick ahead of it.
func TestNoneTooEarly(t *testing.T) {
	x, p := numbered(t, 4, 2, 9, 2, 7)
	for now := range 12 {
		goTo(t, x, now, now)
		p.goTo(now)
		for range 3 {
			expectAll(t, x, p)
			if d, is := p.due(); is {
				due(t, x, d)
			} else {
				notDue(t, x)
			}
		}
	}
	if x.Len() != 0 {
		t.Error(x.Len())
	}
}

// P17.3: what is not asked for stays due, however often one lets the clock go on.
func TestDueStays(t *testing.T) {
	x := New()
	set(t, x, "a", 1, 5, api.OK)
	set(t, x, "b", 1, 5, api.OK)
	set(t, x, "c", 1, 6, api.OK)
	for range 3 {
		goTo(t, x, 100, 5)
		goTo(t, x, greatest, 5)
	}
	due(t, x, api.Due{At: 5, Key: "a", Kind: 1})
	for range 3 {
		goTo(t, x, 100, 5)
	}
	set(t, x, "a", 1, 0, api.OK)
	due(t, x, api.Due{At: 5, Key: "a", Kind: 1})
	due(t, x, api.Due{At: 5, Key: "b", Kind: 1})
	goTo(t, x, 100, 6)
	due(t, x, api.Due{At: 6, Key: "c", Kind: 1})
	goTo(t, x, 100, 100)
}

// P17.2, P17.3: what is set while others are due comes among them: at once ahead of those of greater keys, later behind all.
func TestSetWhileOthersAreDue(t *testing.T) {
	x := New()
	for _, key := range []string{"b", "d", "f"} {
		set(t, x, key, 1, 5, api.OK)
	}
	goTo(t, x, 9, 5)
	due(t, x, api.Due{At: 5, Key: "b", Kind: 1})
	set(t, x, "b", 1, 1, api.OK)
	set(t, x, "e", 1, 0, api.OK)
	set(t, x, "a", 1, 0, api.OK)
	set(t, x, "f", 0, 0, api.OK)
	set(t, x, "d", 1, 2, api.OK)
	for _, d := range []api.Due{{At: 5, Key: "a", Kind: 1}, {At: 5, Key: "e", Kind: 1}, {At: 5, Key: "f", Kind: 0}, {At: 5, Key: "f", Kind: 1}} {
		goTo(t, x, 9, 5)
		due(t, x, d)
	}
	notDue(t, x)
	goTo(t, x, 9, 6)
	due(t, x, api.Due{At: 6, Key: "b", Kind: 1})
	goTo(t, x, 9, 7)
	due(t, x, api.Due{At: 7, Key: "d", Kind: 1})
}

// P17.2: each of some things is dropped: it is no more, the others are as they were.
func TestDrop(t *testing.T) {
	for count := 1; count <= 20; count++ {
		rnd := rand.New(rand.NewSource(int64(count)))
		for _, ticks := range [][]int{rnd.Perm(count), slices.Repeat([]int{3}, count)} {
			for i := range count {
				x, p := numbered(t, ticks...)
				key := string(rune('a' + i))
				for _, other := range []string{"", "A", key + key, key + " ", " " + key} {
					drop(t, x, other, 1, false)
				}
				drop(t, x, key, 0, false)
				drop(t, x, key, 2, false)
				expectAll(t, x, p)
				drop(t, x, key, 1, p.drop(key, 1))
				expectAll(t, x, p)
				drop(t, x, key, 1, false)
				expectAll(t, x, p)
				both(t, x, p, key, 1, 1)
				expectAll(t, x, p)
			}
		}
	}
}

// P17.2: all things are dropped in any order, down to none.
func TestDropDownToNone(t *testing.T) {
	for seed := range int64(200) {
		rnd := rand.New(rand.NewSource(seed))
		x, p := New(), &plain{}
		for i := range 16 {
			both(t, x, p, strconv.Itoa(i), 1, rnd.Intn(8))
		}
		for _, i := range rnd.Perm(16) {
			drop(t, x, strconv.Itoa(i), 1, p.drop(strconv.Itoa(i), 1))
			expectAll(t, x, p)
		}
		for i := range 16 {
			drop(t, x, strconv.Itoa(i), 1, false)
		}
	}
}

// P17.2: what has come to its time may be dropped, and is not told then; what was told can't be.
func TestDropOfWhatIsDue(t *testing.T) {
	x := New()
	for _, key := range []string{"a", "b", "c"} {
		set(t, x, key, 1, 5, api.OK)
	}
	goTo(t, x, 9, 5)
	drop(t, x, "a", 1, true)
	due(t, x, api.Due{At: 5, Key: "b", Kind: 1})
	drop(t, x, "b", 1, false)
	drop(t, x, "c", 1, true)
	notDue(t, x)
	goTo(t, x, 9, 9)
}

// P17.4: to each time from each clock, while nothing is due: on to it, to MaxClock at the most, never back.
func TestGoFree(t *testing.T) {
	for _, from := range clocks {
		for _, to := range slices.Concat(clocks, wrongTicks) {
			x := New()
			goTo(t, x, from, from)
			goTo(t, x, to, max(from, min(to, maxClock)))
			goTo(t, x, from, max(from, min(to, maxClock)))
			if t.Failed() {
				t.Fatal("from", from, "to", to)
			}
		}
	}
}

// P17.4: to each time about First, and far from it: no tick past it, and it takes nothing away.
func TestGoToFirst(t *testing.T) {
	for _, from := range clocks {
		for _, ticks := range []int{0, 1, 5, 1000, maxClock} {
			first := min(from+ticks, maxClock)
			for _, to := range slices.Concat(clocks, wrongTicks, []int{from - 1, from, from + 1, first - 1, first, first + 1}) {
				x, p := New(), &plain{now: from}
				goTo(t, x, from, from)
				both(t, x, p, "a", 1, ticks)
				both(t, x, p, "b", 1, ticks+(maxClock-ticks)/2)
				want := max(from, min(to, first))
				goTo(t, x, to, want)
				p.now = want
				expectAll(t, x, p)
				goTo(t, x, from, want)
				goTo(t, x, 0, want)
				goTo(t, x, least, want)
				goTo(t, x, greatest, first)
				due(t, x, api.Due{At: first, Key: "a", Kind: 1})
				if t.Failed() {
					t.Fatal("from", from, "ticks", ticks, "to", to)
				}
			}
		}
	}
}

// P17.4: First is the one that is there by then: past what was dropped, and on to what was set anew.
func TestGoPastWhatWasFirst(t *testing.T) {
	x := New()
	set(t, x, "a", 1, 5, api.OK)
	set(t, x, "b", 1, 8, api.OK)
	drop(t, x, "a", 1, true)
	goTo(t, x, 7, 7)
	set(t, x, "b", 1, 20, api.OK)
	goTo(t, x, 20, 20)
	set(t, x, "c", 1, 100, api.OK)
	set(t, x, "b", 1, 300, api.OK)
	goTo(t, x, 1000, 120)
	drop(t, x, "c", 1, true)
	goTo(t, x, 1000, 320)
	due(t, x, api.Due{At: 320, Key: "b", Kind: 1})
	goTo(t, x, 1000, 1000)
}

// P17.5: a clone is like the other one, and neither sees what becomes of the other.
func TestClone(t *testing.T) {
	for count := range 12 {
		for _, now := range []int{0, 1, 3} {
			rnd := rand.New(rand.NewSource(int64(count)))
			var ticks []int
			for range count {
				ticks = append(ticks, 3+rnd.Intn(6))
			}
			x, p := numbered(t, ticks...)
			goTo(t, x, now, now)
			p.now = now
			y := x.Clone()
			expectAll(t, y, p)
			for i := range count { // all that y has becomes another time, or is no more
				if i%2 == 0 {
					set(t, y, string(rune('a'+i)), 1, 20-i, api.OK)
				} else {
					drop(t, y, string(rune('a'+i)), 1, true)
				}
				set(t, y, "new", i, i, api.OK)
				expectAll(t, x, p)
			}
			if count > 0 { // y has a thing that is due at once
				goTo(t, y, 4, now)
			} else {
				goTo(t, y, 4, 4)
			}
			expectAll(t, x, p)
			z := x.Clone()
			was := p.clone()
			for n := range 20 {
				x.Go(n)
				p.goTo(n)
				for d, is := p.due(); is; d, is = p.due() {
					due(t, x, d)
				}
				notDue(t, x)
				expectAll(t, z, was)
			}
			expectAll(t, x, p)
			expectAll(t, z, was)
		}
	}
}

// P17.5: each one's clock is its own, and so is each one's room behind a common row.
func TestClonesSideBySide(t *testing.T) {
	x, p := numbered(t, 5, 3, 8, 4, 9)
	all, plains := []*Timers{x}, []*plain{p}
	for i := range 3 {
		all = append(all, all[i].Clone())
		plains = append(plains, p.clone())
	}
	for i := range all {
		goTo(t, all[i], i, i)
		plains[i].now = i
	}
	for i := range all {
		both(t, all[i], plains[i], "own "+strconv.Itoa(i), i, 2)
		both(t, all[i], plains[i], "a", 1, i)
		drop(t, all[i], string(rune('b'+i)), 1, plains[i].drop(string(rune('b'+i)), 1))
	}
	for i := range all {
		expectAll(t, all[i], plains[i])
	}
}

// call does one of sixteen things to timers and to plain ones, and tells whether both answer the same.
func call(x *Timers, p *plain, what int) bool {
	sets := []struct {
		key         string
		kind, ticks int
	}{{"a", 1, 0}, {"a", 1, 2}, {"a", 2, 1}, {"b", 1, 1}, {"b", 1, 3}, {"c", 1, 1}, {"a", 1, -1}}
	if what < len(sets) {
		s := sets[what]
		return x.Set(s.key, s.kind, s.ticks) == p.set(s.key, s.kind, s.ticks)
	}
	switch what -= len(sets); what {
	case 0, 1, 2:
		key := string(rune('a' + what))
		return x.Drop(key, 1) == p.drop(key, 1)
	case 3:
		got, is := x.Due()
		want, should := p.due()
		return got == want && is == should
	case 4, 5, 6:
		to := p.now + what - 4
		x.Go(to)
		p.goTo(to)
	case 7:
		x.Go(2)
		p.goTo(2)
	case 8:
		x.Go(greatest)
		p.goTo(greatest)
	}
	return true
}

// P17.1 to P17.6: all orders of a few calls, each behind a clone of what was ahead.
func TestAllOrders(t *testing.T) {
	const calls = 4
	var walk func(x *Timers, p *plain, past []int)
	walk = func(x *Timers, p *plain, past []int) {
		expectAll(t, x, p)
		if len(past) == calls || t.Failed() {
			return
		}
		for what := range 16 {
			y, q := x.Clone(), p.clone()
			now := append(past[:len(past):len(past)], what)
			if !call(y, q, what) {
				t.Error(now)
				return
			}
			walk(y, q, now)
		}
		expectLike(t, x, p)
	}
	walk(New(), &plain{}, nil)
}

// anyTicks are some: few, about the ends, or such as may not be.
func anyTicks(rnd *rand.Rand) int {
	switch rnd.Intn(12) {
	case 0:
		return clocks[rnd.Intn(len(clocks))]
	case 1:
		return wrongTicks[rnd.Intn(len(wrongTicks))]
	case 2, 3:
		return 0
	}
	return rnd.Intn(12)
}

// anyCall does one call by chance to timers and to plain ones.
func anyCall(t *testing.T, rnd *rand.Rand, x *Timers, p *plain, answers map[string]int) {
	t.Helper()
	key, kind := strconv.Itoa(rnd.Intn(12)), rnd.Intn(3)-1
	switch rnd.Intn(10) {
	case 0, 1, 2, 3:
		n := anyTicks(rnd)
		there := p.find(key, kind) >= 0
		want := p.set(key, kind, n)
		answers["Set "+strconv.Itoa(int(want))+" "+strconv.FormatBool(there)]++
		set(t, x, key, kind, n, want)
	case 4:
		want := p.drop(key, kind)
		answers["Drop "+strconv.FormatBool(want)]++
		drop(t, x, key, kind, want)
	case 5, 6, 7:
		want, is := p.due()
		answers["Due "+strconv.FormatBool(is)]++
		if is {
			due(t, x, want)
		} else {
			notDue(t, x)
		}
	case 8, 9:
		to := p.now + rnd.Intn(9) - 2
		if rnd.Intn(200) == 0 {
			to = wrongTicks[rnd.Intn(len(wrongTicks))]
		}
		p.goTo(to)
		goTo(t, x, to, p.now)
	}
}

// P17.1 to P17.6: calls by chance, on timers and their clones, held against plain ones.
func TestByChance(t *testing.T) {
	answers := map[string]int{}
	for seed := range int64(150) {
		rnd := rand.New(rand.NewSource(seed))
		from := clocks[int(seed)%len(clocks)]
		all, plains := []*Timers{New()}, []*plain{{now: from}}
		goTo(t, all[0], from, from)
		for range 400 {
			at := rnd.Intn(len(all))
			anyCall(t, rnd, all[at], plains[at], answers)
			if len(all) < 4 && rnd.Intn(60) == 0 {
				all = append(all, all[at].Clone())
				plains = append(plains, plains[at].clone())
			}
			for i, x := range all {
				expectLike(t, x, plains[i])
			}
			if t.Failed() {
				t.Fatal("seed", seed)
			}
		}
		for i, x := range all {
			expectAll(t, x, plains[i])
		}
	}
	for _, answer := range []string{"Set 0 true", "Set 0 false", "Set 1 true", "Set 1 false", "Drop true", "Drop false", "Due true", "Due false"} {
		if answers[answer] < 500 {
			t.Error(answer, "only", answers[answer], "times")
		}
	}
}

// P17.6: whatever is set and dropped in between, what is due comes by rising times, at its own, once; the clock never goes back.
func TestInTheOrderOfTimes(t *testing.T) {
	for seed := range int64(60) {
		rnd := rand.New(rand.NewSource(seed))
		x := New()
		waits := map[string]int{} // until when, by keys
		now, last, told := 0, 0, 0
		for told < 400 {
			key := strconv.Itoa(rnd.Intn(30))
			switch rnd.Intn(5) {
			case 0, 1:
				n := rnd.Intn(50)
				set(t, x, key, 1, n, api.OK)
				waits[key] = now + n
			case 2:
				_, is := waits[key]
				drop(t, x, key, 1, is)
				delete(waits, key)
			case 3:
				x.Go(now + rnd.Intn(60) - 20)
			case 4:
				d, is := x.Due()
				if !is {
					break
				}
				at, should := waits[d.Key]
				if !should || d.At != at || d.At > x.Now() || d.At < last {
					t.Fatal(d, at, should, x.Now(), last)
				}
				delete(waits, d.Key)
				last = d.At
				told++
			}
			if x.Now() < now {
				t.Fatal(x.Now(), now)
			}
			now = x.Now()
			for key, at := range waits {
				if at < now {
					t.Fatal(key, "was to be told at", at, "and it is", now)
				}
			}
		}
	}
}

// A great many things: set, set anew, dropped, and told, each in its order.
func TestMany(t *testing.T) {
	const many = 100000
	rnd := rand.New(rand.NewSource(1))
	x := New()
	for _, i := range rnd.Perm(many) {
		set(t, x, strconv.Itoa(i), i%7, rnd.Intn(many), api.OK)
	}
	for _, i := range rnd.Perm(many) {
		set(t, x, strconv.Itoa(i), i%7, i/2, api.OK)
	}
	for i := range many {
		if i%3 == 0 {
			drop(t, x, strconv.Itoa(i), i%7, true)
		}
		if t.Failed() {
			t.Fatal(i)
		}
	}
	var last api.Due
	told := 0
	for x.Len() > 0 {
		x.Go(many)
		d, is := x.Due()
		i, _ := strconv.Atoi(d.Key)
		if !is || i%3 == 0 || d.Kind != i%7 || d.At != i/2 || told > 0 && !ahead(last, d) {
			t.Fatal(d, is, last)
		}
		last = d
		told++
	}
	if told != many-(many+2)/3 {
		t.Error(told)
	}
}

func inUse() uint64 {
	var m runtime.MemStats
	runtime.GC()
	runtime.ReadMemStats(&m)
	return m.HeapAlloc
}

// expectLittle holds that less than an eighth of some bytes came into use since.
func expectLittle(t *testing.T, before uint64, bytes int) {
	t.Helper()
	if after := inUse(); after > before+uint64(bytes/8) {
		t.Errorf("%d bytes more are in use", after-before)
	}
}

// R6: of keys that are pieces of long texts the long ones are not kept, set once or anew.
func TestLongTextsAreNotKept(t *testing.T) {
	const size = 1 << 20
	x := New()
	before := inUse()
	for n := range 32 {
		text := strings.Repeat(" ", size) + strconv.Itoa(n%16)
		set(t, x, text[size:], 1, n, api.OK)
	}
	expectLittle(t, before, 32*size)
	goTo(t, x, 100, 16)
	due(t, x, api.Due{At: 16, Key: "0", Kind: 1})
}

// What is kept is no more than what is to be due: not what was told, or dropped, or refused, nor what was only asked.
func TestNothingIsKeptOfWhatIsDone(t *testing.T) {
	const size = 1 << 20
	x := New()
	before := inUse()
	for round := range 3 {
		for n := range 16 {
			set(t, x, strconv.Itoa(n)+strings.Repeat(" ", size), 1, n%2, api.OK)
		}
		set(t, x, strings.Repeat("x", size), 1, -1, api.ErrArg)
		drop(t, x, strings.Repeat("x", size), 1, false)
		for n := range 16 {
			if n%2 == 1 {
				drop(t, x, strconv.Itoa(n)+strings.Repeat(" ", size), 1, true)
			}
		}
		for range 8 {
			if _, is := x.Due(); !is {
				t.Error("round", round)
			}
		}
	}
	expectLittle(t, before, 16*size)
	for n := range 50000 {
		set(t, x, strconv.Itoa(n)+strings.Repeat(" ", 1000), n, 0, api.OK)
		x.Due()
		set(t, x, strconv.Itoa(n)+strings.Repeat(" ", 1000), n, 0, api.OK)
		drop(t, x, strconv.Itoa(n)+strings.Repeat(" ", 1000), n, true)
	}
	expectLittle(t, before, 50000*1000)
	expectAll(t, x, &plain{})
}
