package index

import (
	"math/rand"
	"slices"
	"strconv"
	"strings"
	"testing"
	"unsafe"

	"groat/api"
)

func must(t *testing.T, order int) *Index {
	t.Helper()
	x, e := New(order)
	if e != api.OK || x == nil {
		t.Fatal(order, e)
	}
	return x
}

// check holds the tree of x against what P8.1, P8.3 and P8.4 say of its nodes.
func check(t *testing.T, x *Index) {
	t.Helper()
	if x.top == nil {
		if x.Len() != 0 || x.Depth() != 0 {
			t.Fatal("no nodes, but", x.Len(), "keys, depth", x.Depth())
		}
		return
	}
	keys := checkNode(t, x, x.top, 1)
	if len(keys) != x.Len() {
		t.Fatal("Len", x.Len(), "of", len(keys))
	}
	if !slices.IsSorted(keys) || len(slices.Compact(slices.Clone(keys))) != len(keys) {
		t.Fatal("not rising", keys)
	}
	least, most := bounds(x)
	if len(keys) < least || len(keys) > most {
		t.Fatal("order", x.order, "depth", x.Depth(), "has", len(keys), "of", least, "to", most)
	}
}

// checkNode gives the keys below n, from left to right.
func checkNode(t *testing.T, x *Index, n *node, depth int) []string {
	t.Helper()
	if len(n.pairs) > x.order || len(n.pairs) < 1 || n != x.top && len(n.pairs) < x.order/2 {
		t.Fatal("order", x.order, "depth", depth, "a node of", len(n.pairs))
	}
	if len(n.kids) == 0 {
		if depth != x.Depth() {
			t.Fatal("a lowest node at", depth, "of", x.Depth())
		}
		var keys []string
		for _, p := range n.pairs {
			keys = append(keys, p.key)
		}
		return keys
	}
	if len(n.kids) != len(n.pairs)+1 {
		t.Fatal(len(n.kids), "kids beside", len(n.pairs))
	}
	var keys []string
	for i, kid := range n.kids {
		keys = append(keys, checkNode(t, x, kid, depth+1)...)
		if i < len(n.pairs) {
			keys = append(keys, n.pairs[i].key)
		}
	}
	return keys
}

// bounds: how many keys an index of this depth has at least (P8.5) and at most (P8.1).
func bounds(x *Index) (int, int) {
	least, most := 2, 1
	for range x.Depth() - 1 {
		least *= x.order/2 + 1
	}
	for range x.Depth() {
		most *= x.order + 1
	}
	return least - 1, most - 1
}

// all: what a range tells, as texts key=number.
func all(seq func(func(string, int) bool)) []string {
	var l []string
	for k, n := range seq {
		l = append(l, k+"="+strconv.Itoa(n))
	}
	return l
}

// plain is the plain one: a map.
type plain map[string]int

func (m plain) put(k string, n int) (int, bool) {
	old, was := m[k]
	m[k] = n
	return old, was
}

func (m plain) drop(k string) (int, bool) {
	old, was := m[k]
	delete(m, k)
	return old, was
}

func (m plain) all(from, to string) []string {
	var keys []string
	for k := range m {
		if k >= from && (to == "" || k < to) {
			keys = append(keys, k)
		}
	}
	slices.Sort(keys)
	for i, k := range keys {
		keys[i] = k + "=" + strconv.Itoa(m[k])
	}
	return keys
}

// same holds x against the plain one in all that can be asked.
func same(t *testing.T, x *Index, m plain, others ...string) {
	t.Helper()
	check(t, x)
	if x.Len() != len(m) {
		t.Fatal("Len", x.Len(), len(m))
	}
	for k, want := range m {
		if n, is := x.Get(k); !is || n != want {
			t.Fatalf("Get(%q) %d %v, not %d", k, n, is, want)
		}
	}
	for _, k := range others {
		want, was := m[k]
		if n, is := x.Get(k); n != want || is != was {
			t.Fatalf("Get(%q) %d %v, not %d %v", k, n, is, want, was)
		}
	}
	if got, want := all(x.Range("", "")), m.all("", ""); !slices.Equal(got, want) {
		t.Fatal(got, want)
	}
}

func put(t *testing.T, x *Index, m plain, k string, n int) {
	t.Helper()
	want, was := m.put(k, n)
	if old, is := x.Put(k, n); old != want || is != was {
		t.Fatalf("order %d: Put(%q) %d %v, not %d %v", x.order, k, old, is, want, was)
	}
}

func drop(t *testing.T, x *Index, m plain, k string) {
	t.Helper()
	want, was := m.drop(k)
	if old, is := x.Drop(k); old != want || is != was {
		t.Fatalf("order %d: Drop(%q) %d %v, not %d %v", x.order, k, old, is, want, was)
	}
}

// P8.1: orders of 2 to 64, and none beside them.
func TestNew(t *testing.T) {
	if api.ErrIndexOrder != 80 {
		t.Error(api.ErrIndexOrder)
	}
	for order := -3; order <= 130; order++ {
		x, e := New(order)
		if order < 2 || order > 64 {
			if x != nil || e != api.ErrIndexOrder {
				t.Error(order, e)
			}
			continue
		}
		if e != api.OK {
			t.Fatal(order, e)
		}
		same(t, x, plain{}, "", "a")
	}
	for _, order := range []int{-1 << 63, 1<<63 - 1, 1 << 32, 1<<32 + 2, -2, -64} {
		if x, e := New(order); x != nil || e != api.ErrIndexOrder {
			t.Error(order, e)
		}
	}
}

// P8.1: a node is full with order keys, not ahead of it: the key behind them makes a second level.
func TestFull(t *testing.T) {
	for order := 2; order <= 64; order++ {
		x := must(t, order)
		for i := range order {
			x.Put(strconv.Itoa(100+i), i)
			if x.Depth() != 1 {
				t.Fatal(order, i, x.Depth())
			}
			check(t, x)
		}
		x.Put("100", 7)
		if x.Depth() != 1 {
			t.Fatal(order, "a key that was there")
		}
		x.Put("05", 7)
		if x.Depth() != 2 {
			t.Fatal(order, x.Depth())
		}
		check(t, x)
	}
}

// The chapter's examples.
func TestExamples(t *testing.T) {
	x := must(t, 2)
	say := func(n int, is bool) string { return strconv.Itoa(n) + " " + strconv.FormatBool(is) }
	for i, c := range []struct{ got, want string }{
		{say(x.Put("b", 2)), "0 false"}, {say(x.Put("a", 1)), "0 false"}, {strconv.Itoa(x.Depth()), "1"},
		{say(x.Put("c", 3)), "0 false"}, {strconv.Itoa(x.Depth()), "2"},
		{say(x.Put("b", 9)), "2 true"}, {say(x.Get("b")), "9 true"},
		{say(x.Drop("c")), "3 true"}, {say(x.Drop("c")), "0 false"}, {strconv.Itoa(x.Len()), "2"},
		{strings.Join(all(x.Range("a", "b")), " "), "a=1"}, {strings.Join(all(x.Range("b", "")), " "), "b=9"},
	} {
		if c.got != c.want {
			t.Error(i, c.got, c.want)
		}
	}
}

// P8.2: what is not there is 0 and false, at every call, also in an index that had keys; numbers are any, 0 and those below it too.
func TestGetPutDrop(t *testing.T) {
	for _, order := range []int{2, 3, 64} {
		x, m := must(t, order), plain{}
		drop(t, x, m, "")
		drop(t, x, m, "a")
		for i, k := range []string{"", "a", "\x00", "a\x00", "\xff", "ab", "\xff\xff", "é", strings.Repeat("z", 5000)} {
			drop(t, x, m, k)
			put(t, x, m, k, 0)
			put(t, x, m, k, -1<<63)
			put(t, x, m, k, 1<<63-1)
			put(t, x, m, k, i)
			same(t, x, m, "", "b", "aa", "\x00\x00", "\xfe")
		}
		for _, k := range []string{"", "\xff", "none", "a"} {
			drop(t, x, m, k)
			drop(t, x, m, k)
			same(t, x, m, k)
			put(t, x, m, k, 5)
			drop(t, x, m, k)
			same(t, x, m, k)
		}
	}
}

// perms calls do with each order of 0 to n - 1.
func perms(n int, do func([]int)) {
	l := make([]int, n)
	for i := range l {
		l[i] = i
	}
	var rest func(int)
	rest = func(i int) {
		if i == n {
			do(l)
			return
		}
		for j := i; j < n; j++ {
			l[i], l[j] = l[j], l[i]
			rest(i + 1)
			l[i], l[j] = l[j], l[i]
		}
	}
	rest(0)
}

// P8.2, P8.4: keys that are put in each order, and dropped in each order, down to none; the nodes hold what P8.1 says at each step.
func TestEachOrder(t *testing.T) {
	const n = 5
	for order := 2; order <= 4; order++ {
		perms(n, func(puts []int) {
			puts = slices.Clone(puts)
			perms(n, func(drops []int) {
				x := must(t, order)
				for _, i := range puts {
					x.Put(string(rune('a'+i)), i)
				}
				for had, i := range drops {
					check(t, x)
					if v, is := x.Drop(string(rune('a' + i))); v != i || !is || x.Len() != n-1-had {
						t.Fatal(order, puts, drops, v, is)
					}
				}
				check(t, x)
			})
		})
	}
}

// orders: some orders of 0 to n - 1.
func orders(n int, r *rand.Rand) [][]int {
	var up, down, inward, outward []int
	for i := range n {
		up = append(up, i)
		down = append(down, n-1-i)
	}
	for i, j := 0, n-1; i <= j; i, j = i+1, j-1 {
		inward = append(inward, i)
		if i < j {
			inward = append(inward, j)
		}
	}
	outward = slices.Clone(inward)
	slices.Reverse(outward)
	return [][]int{up, down, inward, outward, r.Perm(n)}
}

// P8.1, P8.2, P8.4, P8.5: many keys, put by some orders, dropped by others, down to none and up once more; what it has hangs on what was put and dropped alone.
func TestManyKeys(t *testing.T) {
	r := rand.New(rand.NewSource(8))
	for _, order := range []int{2, 3, 4, 5, 8, 31, 63, 64} {
		n := 60 + 5*order
		for _, puts := range orders(n, r) {
			x := must(t, order)
			for _, drops := range orders(n, r) {
				m := plain{}
				for _, i := range puts {
					put(t, x, m, strconv.Itoa(1000+i), i)
					check(t, x)
				}
				same(t, x, m, "", "1", "10000", "2")
				for at, i := range drops {
					drop(t, x, m, strconv.Itoa(1000+i))
					check(t, x)
					if at == n/2 {
						same(t, x, m, strconv.Itoa(1000+i))
					}
				}
				same(t, x, m, "1000")
			}
		}
	}
}

// P8.2, P8.3: random calls, held against the plain one.
func TestRandom(t *testing.T) {
	for seed := range int64(60) {
		r := rand.New(rand.NewSource(seed))
		order := []int{2, 3, 4, 6, 7, 16, 63, 64}[r.Intn(8)]
		x, m := must(t, order), plain{}
		key := func() string {
			b := make([]byte, r.Intn(4))
			for i := range b {
				b[i] = "\x00a~\x80\xff"[r.Intn(5)]
			}
			return string(b)
		}
		grow := 70
		for step := range 1500 {
			if step%300 == 0 {
				grow = 100 - grow
			}
			if r.Intn(100) < 100-grow {
				put(t, x, m, key(), r.Intn(9)-4)
			} else {
				drop(t, x, m, key())
			}
			from, to := key(), key()
			if got, want := all(x.Range(from, to)), m.all(from, to); !slices.Equal(got, want) {
				t.Fatalf("order %d: Range(%q, %q) %q, not %q", order, from, to, got, want)
			}
			if step%10 == 0 {
				same(t, x, m, key(), key())
			}
		}
	}
}

// P8.4, P8.5: the depth: at least 2 * t^(d-1) - 1 keys, so it grows slowly; and it is no more than the nodes' room asks for.
func TestDepth(t *testing.T) {
	n := 100000
	if testing.Short() {
		n = 5000
	}
	for _, order := range []int{2, 3, 8, 64} {
		x := must(t, order)
		depth := 0
		for i := range n {
			x.Put(strconv.Itoa(i*7919%n), i)
			if d := x.Depth(); d != depth {
				if d != depth+1 {
					t.Fatal("depth", depth, "and then", d)
				}
				depth = d
				check(t, x)
			}
			if least, most := bounds(x); x.Len() < least || x.Len() > most {
				t.Fatal(order, x.Len(), least, most)
			}
		}
		check(t, x)
		for i := range n {
			x.Drop(strconv.Itoa(i * 31 % n))
			if d := x.Depth(); d != depth {
				if d != depth-1 {
					t.Fatal("depth", depth, "and then", d)
				}
				depth = d
				check(t, x)
			}
		}
		if depth != 0 || x.Len() != 0 {
			t.Fatal(order, depth, x.Len())
		}
	}
}

// some: an index of order with the keys b, d, f, .., as the plain one has them.
func some(t *testing.T, order int) (*Index, plain) {
	t.Helper()
	x, m := must(t, order), plain{}
	for c := 'b'; c <= 'z'; c += 2 {
		put(t, x, m, string(c), int(c))
	}
	return x, m
}

// P8.3: each pair of ends, also such as are keys, stand between keys, below and above all, or the wrong way round.
func TestRangeEnds(t *testing.T) {
	for _, order := range []int{2, 3, 64} {
		x, m := some(t, order)
		for range 2 {
			ends := []string{"", "\x00", "z\x00", "\xff"}
			for c := 'a'; c <= '{'; c++ {
				ends = append(ends, string(c), string(c)+"\x00", string(c)+"m")
			}
			for _, from := range ends {
				for _, to := range ends {
					if got, want := all(x.Range(from, to)), m.all(from, to); !slices.Equal(got, want) {
						t.Fatalf("order %d: Range(%q, %q) %q, not %q", order, from, to, got, want)
					}
				}
			}
			put(t, x, m, "", -1)
		}
	}
	for _, to := range []string{"", "a"} {
		if got := all(must(t, 2).Range("", to)); len(got) != 0 {
			t.Error(got)
		}
	}
}

// P8.3: a range may be left early, at each key, is not told any more then, and may be ranged over again.
func TestRangeLeft(t *testing.T) {
	for _, order := range []int{2, 3, 64} {
		x, m := some(t, order)
		want := m.all("", "")
		seq := x.Range("", "")
		for stop := range want {
			var got []string
			seq(func(k string, n int) bool {
				got = append(got, k+"="+strconv.Itoa(n))
				if len(got) > stop+1 {
					t.Fatal("told behind its end")
				}
				return len(got) <= stop
			})
			if !slices.Equal(got, want[:stop+1]) {
				t.Fatal(order, stop, got)
			}
			if got := all(seq); !slices.Equal(got, want) {
				t.Fatal(order, stop, got)
			}
		}
		same(t, x, m)
	}
}

// P8.3: ranged over again, it tells what is there then.
func TestRangeAgain(t *testing.T) {
	for _, order := range []int{2, 3, 64} {
		x, m := must(t, order), plain{}
		seq, part := x.Range("", ""), x.Range("d", "m")
		again := func() {
			t.Helper()
			if got, want := all(seq), m.all("", ""); !slices.Equal(got, want) {
				t.Fatal(got, want)
			}
			if got, want := all(part), m.all("d", "m"); !slices.Equal(got, want) {
				t.Fatal(got, want)
			}
		}
		again()
		for c := 'a'; c <= 'z'; c++ {
			put(t, x, m, string(c), int(c))
			again()
		}
		put(t, x, m, "e", 1)
		again()
		for c := 'a'; c <= 'z'; c++ {
			drop(t, x, m, string(c))
			again()
		}
	}
}

// P8.3: ranges within one another go their own ways.
func TestRangeWithin(t *testing.T) {
	x, m := some(t, 2)
	var got, want []string
	for k := range x.Range("", "") {
		for k2 := range x.Range(k, "") {
			got = append(got, k+k2)
		}
	}
	for k := range m {
		for k2 := range m {
			if k2 >= k {
				want = append(want, k+k2)
			}
		}
	}
	slices.Sort(want)
	if !slices.Equal(got, want) {
		t.Error(got, want)
	}
}

// R1: who changes the index within a range, though it is not to be, meets no panic, and an end; the index is whole then.
func TestRangeChanged(t *testing.T) {
	for _, order := range []int{2, 3, 64} {
		x, m := some(t, order)
		for k := range x.Range("", "") {
			put(t, x, m, k+"a", 1)
		}
		same(t, x, m)
		for x.Len() > 0 {
			for k := range x.Range("", "") {
				for other := range m {
					if other != k || len(m) == 1 {
						drop(t, x, m, other)
					}
				}
			}
			same(t, x, m)
		}
		x, m = some(t, order)
		for k, n := range x.Range("", "") {
			put(t, x, m, k, n+1)
		}
		same(t, x, m)
		if n, _ := x.Get("z"); n != 'z'+1 {
			t.Error("a number that is set ends no range:", n)
		}
	}
}

// R6: an index keeps keys of its own, not pieces of longer texts; two go their own ways.
func TestOwn(t *testing.T) {
	x, y := must(t, 2), must(t, 2)
	text := strings.Repeat("a long text, of which a piece is a key", 100)
	x.Put(text[2:6], 1)
	x.Put(text[7:11], 2)
	for k := range x.Range("", "") {
		if at := strings.Index(text, k); unsafe.StringData(k) == unsafe.StringData(text[at:]) {
			t.Error("a piece of the text that was handed in:", k)
		}
	}
	if x.Len() != 2 || y.Len() != 0 {
		t.Error(x.Len(), y.Len())
	}
}

// The nodes keep nothing of keys that were dropped.
func TestNothingKept(t *testing.T) {
	for _, order := range []int{2, 3, 64} {
		x := must(t, order)
		for i := range 500 {
			x.Put(strconv.Itoa(i), i)
		}
		for i := range 400 {
			x.Drop(strconv.Itoa(i * 3 % 500))
		}
		var look func(n *node)
		look = func(n *node) {
			for _, p := range n.pairs[len(n.pairs):cap(n.pairs)] {
				if p.key != "" {
					t.Fatal(order, "still has", p.key)
				}
			}
			for _, kid := range n.kids[len(n.kids):cap(n.kids)] {
				if kid != nil {
					t.Fatal(order, "still has a node")
				}
			}
			for _, kid := range n.kids {
				look(kid)
			}
		}
		look(x.top)
	}
}
