package store

import (
	"bytes"
	"fmt"
	"maps"
	"math"
	"math/rand"
	"slices"
	"strings"
	"testing"

	"groat/api"
	"groat/plant"
	"groat/wal"
)

const small = 2 + 4*api.SegSectors // sectors of the smallest disk that a store may be on: four segments

func sectors(segments int) int { return 2 + segments*api.SegSectors }

type changes = []api.Change

// plain is a store as a map, on which the same changes are done.
type plain map[string]string

func (m plain) do(l ...api.Change) {
	for _, c := range l {
		if c.Gone {
			delete(m, string(c.Key))
		} else {
			m[string(c.Key)] = string(c.Value)
		}
	}
}

func (m plain) behind(l changes) plain {
	c := maps.Clone(m)
	c.do(l...)
	return c
}

// list are the pairs whose keys begin with something, by rising keys.
func (m plain) list(prefix string) []api.Pair {
	var l []api.Pair
	for _, key := range slices.Sorted(maps.Keys(m)) {
		if strings.HasPrefix(key, prefix) {
			l = append(l, api.Pair{Key: []byte(key), Value: []byte(m[key])})
		}
	}
	return l
}

// costOf is a group's, in the chapter's words: of so many records, of so many bytes together.
func costOf(records, size int) int { return (1 + 2*records + size + 39) / 40 }

// cost is that of all pairs.
func (m plain) cost() int {
	n := 0
	for key, value := range m {
		n += costOf(1, len(key)+len(value)+4)
	}
	return n
}

func groupCost(l changes) int {
	n := 0
	for _, c := range l {
		n += len(c.Key) + len(c.Value) + 4
	}
	return costOf(len(l), n)
}

func set(key, value string) api.Change {
	return api.Change{Key: []byte(key), Value: []byte(value)}
}

func gone(key string) api.Change { return api.Change{Key: []byte(key), Gone: true} }

func takesSeconds(t *testing.T) {
	t.Helper()
	if testing.Short() {
		t.Skip("takes seconds")
	}
}

func disks(t *testing.T, sectors ...int) *plant.Plant {
	t.Helper()
	p, e := plant.New(sectors)
	if e != api.OK {
		t.Fatalf("plant.New(%v): %v", sectors, e)
	}
	return p
}

func format(t *testing.T, p *plant.Plant, dev int) {
	t.Helper()
	if e := Format(p, dev); e != api.OK {
		t.Fatalf("Format(%d): %v", dev, e)
	}
}

func open(t *testing.T, p *plant.Plant, dev int) *Store {
	t.Helper()
	s, e := Open(p, dev)
	if e != api.OK || s == nil {
		t.Fatalf("Open(%d): %v", dev, e)
	}
	return s
}

// fresh is a store on a new disk of so many segments.
func fresh(t *testing.T, segments int) (*plant.Plant, *Store) {
	t.Helper()
	p := disks(t, sectors(segments))
	format(t, p, 0)
	return p, open(t, p, 0)
}

func do(t *testing.T, s *Store, l ...api.Change) {
	t.Helper()
	if e := s.Apply(l); e != api.OK {
		t.Fatalf("Apply of %d changes: %v", len(l), e)
	}
}

func compact(t *testing.T, s *Store) {
	t.Helper()
	if e := s.Compact(); e != api.OK {
		t.Fatalf("Compact: %v", e)
	}
	expectAllLive(t, s)
}

// expectAllLive holds the log against what there is: a record for each key, and none beside.
func expectAllLive(t *testing.T, s *Store) {
	t.Helper()
	n := 0
	for no := s.log.First(); no < s.log.Next(); no++ {
		l, e := s.log.Read(no)
		if e != api.OK || len(l) == 0 {
			t.Fatalf("group %d: %d records, %v", no, len(l), e)
		}
		n += len(l)
	}
	if n != s.Len() || s.dead != 0 || len(s.groups) != s.log.Next()-s.log.First() {
		t.Fatalf("%d records of %d keys; %d dead; %d groups known of %d", n, s.Len(), s.dead, len(s.groups), s.log.Next()-s.log.First())
	}
}

func refused(t *testing.T, e, want api.Errno, what string) {
	t.Helper()
	if e != want {
		t.Errorf("%s: %v, want %v", what, e, want)
	}
}

func alikePairs(a, b []api.Pair) bool {
	return slices.EqualFunc(a, b, func(x, y api.Pair) bool {
		return bytes.Equal(x.Key, y.Key) && bytes.Equal(x.Value, y.Value)
	})
}

// differs tells in what a store is not as a plain one.
func differs(s *Store, m plain) string {
	if s.Len() != len(m) {
		return fmt.Sprintf("%d keys, want %d", s.Len(), len(m))
	}
	l, e := s.List(nil)
	if e != api.OK || !alikePairs(l, m.list("")) {
		return fmt.Sprintf("List: %.99q %v, want %.99q", l, e, m.list(""))
	}
	for key, value := range m {
		if got, is, e := s.Get([]byte(key)); !is || e != api.OK || string(got) != value {
			return fmt.Sprintf("Get(%q): %q %v %v, want %q", key, got, is, e, value)
		}
	}
	return ""
}

func expect(t *testing.T, s *Store, m plain) {
	t.Helper()
	if d := differs(s, m); d != "" {
		t.Fatal(d)
	}
}

func expectNoKey(t *testing.T, s *Store, keys ...string) {
	t.Helper()
	for _, key := range keys {
		if v, is, e := s.Get([]byte(key)); len(v) != 0 || is || e != api.OK {
			t.Fatalf("Get(%q): %q %v %v, want nothing", key, v, is, e)
		}
	}
}

// P9.1 to P9.6: the chapter's examples.
func TestExamples(t *testing.T) {
	p := disks(t, small)
	if s, e := Open(p, 0); s != nil || e != api.ErrCorrupt {
		t.Fatalf("Open of a new disk: %v %v", s, e)
	}
	format(t, p, 0)
	s := open(t, p, 0)
	expect(t, s, plain{})
	do(t, s, set("a", "1"), set("b", "2"), gone("a"))
	expect(t, s, plain{"b": "2"})
	expectNoKey(t, s, "a")
	refused(t, s.Apply(make(changes, 17)), api.ErrLong, "17 changes")
	refused(t, s.Apply(changes{set("", "1")}), api.ErrKey, "no key")
	refused(t, s.Apply(changes{{Key: []byte("b"), Value: []byte("2"), Gone: true}}), api.ErrKey, "gone with a value")
	p.Fuse(0)
	refused(t, s.Apply(changes{set("c", "3")}), api.ErrPower, "Apply as the power goes off")
	p.Boot(nil)
	expect(t, open(t, p, 0), plain{"b": "2"})
}

// P9.1: disks that are none, or too small.
func TestDisks(t *testing.T) {
	p := disks(t, small-1, 1, 64, small)
	for _, dev := range []int{0, 1, 2, 4, 5, -1, math.MaxInt, math.MinInt} {
		refused(t, Format(p, dev), api.ErrArg, fmt.Sprint("Format ", dev))
		s, e := Open(p, dev)
		refused(t, e, api.ErrArg, fmt.Sprint("Open ", dev))
		if s != nil {
			t.Errorf("Open %d: a store beside an error", dev)
		}
	}
	if p.Steps() != 0 {
		t.Errorf("%d steps were done", p.Steps())
	}
	format(t, p, 3)
	expect(t, open(t, p, 3), plain{})
}

// P9.1: ErrArg stands ahead of ErrPower, and that ahead of ErrCorrupt (R3).
func TestErrorsWithThePowerOff(t *testing.T) {
	for _, formatted := range []bool{false, true} {
		p := disks(t, small, 7)
		if formatted {
			format(t, p, 0)
		}
		p.Fuse(0)
		p.Flush(0)
		for _, dev := range []int{-1, 1, 2} {
			refused(t, Format(p, dev), api.ErrArg, "Format of no disk")
			_, e := Open(p, dev)
			refused(t, e, api.ErrArg, "Open of no disk")
		}
		refused(t, Format(p, 0), api.ErrPower, "Format")
		s, e := Open(p, 0)
		refused(t, e, api.ErrPower, "Open")
		if s != nil {
			t.Error("a store beside an error")
		}
	}
}

// P9.1: Format leaves no key, whatever the disk had: another store, any bytes.
func TestFormatOfAnyDisk(t *testing.T) {
	rnd := rand.New(rand.NewSource(1))
	for round := range 20 {
		p, s := fresh(t, 4)
		for i := range round {
			do(t, s, set(fmt.Sprint(i), strings.Repeat("x", 5*i)))
		}
		if round%3 == 0 {
			scribble(t, p, rnd, small)
		}
		for range 2 {
			format(t, p, 0)
			p.Boot(nil)
			s = open(t, p, 0)
			expect(t, s, plain{})
			expectNoKey(t, s, "0", "1")
			do(t, s, set("0", "new"))
			expect(t, open(t, p, 0), plain{"0": "new"})
		}
	}
}

// P9.1: there is no store where nothing was laid, or all bytes are alike.
func TestOpenOfNoStore(t *testing.T) {
	for x := range 256 {
		p := disks(t, small)
		for place := range small {
			p.Write(0, place, bytes.Repeat([]byte{byte(x)}, api.SectorSize))
		}
		if s, e := Open(p, 0); s != nil || e != api.ErrCorrupt {
			t.Errorf("a disk of %02x: %v %v", x, s, e)
		}
	}
}

// P9.2: each prefix of keys that differ in their lengths and in the highest bytes.
func TestListOfEachPrefix(t *testing.T) {
	_, s := fresh(t, 20)
	m := plain{}
	bs := "\x00\x01a\xfe\xff"
	var keys []string
	for _, a := range []byte(bs) {
		keys = append(keys, string([]byte{a}))
		for _, b := range []byte(bs) {
			keys = append(keys, string([]byte{a, b}))
			for _, c := range []byte(bs) {
				keys = append(keys, string([]byte{a, b, c}))
			}
		}
	}
	keys = append(keys, strings.Repeat("\xff", 31), strings.Repeat("\xff", 32), strings.Repeat("a", 32))
	rand.New(rand.NewSource(1)).Shuffle(len(keys), func(i, j int) { keys[i], keys[j] = keys[j], keys[i] })
	for i, key := range keys {
		c := set(key, fmt.Sprint(i))
		do(t, s, c)
		m.do(c)
	}
	none := []string{"", "b", "\xff\xff\xff\xff\xfe", strings.Repeat("\xff", 33), strings.Repeat("\xff", 40), strings.Repeat("a", 33), "\x00\x00\x00\x00"}
	for round := range 3 {
		for _, prefix := range append(none, keys...) {
			if l, e := s.List([]byte(prefix)); e != api.OK || !alikePairs(l, m.list(prefix)) {
				t.Fatalf("List(%q): %q %v, want %q", prefix, l, e, m.list(prefix))
			}
		}
		for i, key := range keys {
			if i%3 == round {
				do(t, s, gone(key))
				m.do(gone(key))
			}
		}
	}
	expect(t, s, plain{})
}

// P9.2: what is no key is not there.
func TestGetOfNoKey(t *testing.T) {
	_, s := fresh(t, 5)
	expectNoKey(t, s, "", "x", strings.Repeat("k", 33), strings.Repeat("k", 1000))
	do(t, s, set("x", ""), set(strings.Repeat("k", 32), "v"))
	expectNoKey(t, s, "", "xx", strings.Repeat("k", 31), strings.Repeat("k", 33))
	if v, is, e := s.Get(nil); len(v) != 0 || is || e != api.OK {
		t.Errorf("Get(nil): %q %v %v", v, is, e)
	}
	if v, is, e := s.Get([]byte("x")); len(v) != 0 || !is || e != api.OK {
		t.Errorf("Get of an empty value: %q %v %v", v, is, e)
	}
}

// P9.2, R3: with the power off, what must be read is told by ErrPower, without anything beside it.
func TestCallsWithThePowerOff(t *testing.T) {
	p, s := fresh(t, 5)
	do(t, s, set("a", "1"), set("b", "2"))
	do(t, s, set("a", "3"))
	long := make(changes, 17)
	p.Fuse(0)
	p.Flush(0)
	v, is, e := s.Get([]byte("a"))
	if len(v) != 0 || is || e != api.ErrPower {
		t.Errorf("Get: %q %v %v", v, is, e)
	}
	for _, prefix := range []string{"", "a", "b"} {
		if l, e := s.List([]byte(prefix)); len(l) != 0 || e != api.ErrPower {
			t.Errorf("List(%q): %q %v", prefix, l, e)
		}
	}
	refused(t, s.Apply(long), api.ErrLong, "Apply of 17 changes")
	refused(t, s.Apply(changes{set("", "")}), api.ErrKey, "Apply of no key")
	refused(t, s.Apply(changes{set("a", "1")}), api.ErrPower, "Apply")
	refused(t, s.Compact(), api.ErrPower, "Compact")
	p.Boot(nil)
	expect(t, open(t, p, 0), plain{"a": "3", "b": "2"})
}

// P9.3: keys and values of each length.
func TestLengthsOfKeysAndValues(t *testing.T) {
	for n := range 40 {
		_, s := fresh(t, 8)
		c := set(strings.Repeat("k", n), "v")
		want := api.OK
		if n < 1 || n > api.MaxKey {
			want = api.ErrKey
		}
		refused(t, s.Apply(changes{c}), want, fmt.Sprintf("Apply of a key of %d bytes", n))
		refused(t, s.Apply(changes{gone(string(c.Key))}), want, fmt.Sprintf("gone: a key of %d bytes", n))
		if s.Len() != 0 {
			t.Errorf("%d keys", s.Len())
		}
	}
	rnd := rand.New(rand.NewSource(1))
	p, s := fresh(t, 40)
	m := plain{}
	for n := range 1100 {
		b := make([]byte, n)
		rnd.Read(b)
		c := set(fmt.Sprint(n%7), string(b))
		if n > api.MaxValue {
			refused(t, s.Apply(changes{c}), api.ErrKey, fmt.Sprintf("a value of %d bytes", n))
		} else {
			do(t, s, c)
			m.do(c)
		}
		expect(t, s, m)
	}
	expect(t, open(t, p, 0), m)
}

// ofSize are so many changes of other keys, of so many bytes with four for each.
func ofSize(count, size int) changes {
	l := make(changes, count)
	for i := range l {
		n := (size - 4*count - count) / count
		if i < (size-5*count)%count {
			n++
		}
		l[i] = set(string([]byte{byte(i)}), strings.Repeat(string([]byte{byte(100 + i)}), n))
	}
	return l
}

// P9.3: as many changes, and as many bytes, as there may be, and one more.
func TestLong(t *testing.T) {
	for count := range 17 {
		for _, size := range []int{2047, 2048, 2049, 2050} {
			if count < 2 || size > (1024+5)*count {
				continue
			}
			_, s := fresh(t, 8)
			l, m := ofSize(count, size), plain{}
			if size > api.MaxPayload {
				refused(t, s.Apply(l), api.ErrLong, fmt.Sprintf("%d changes of %d bytes", count, size))
			} else {
				refused(t, s.Apply(l), api.OK, fmt.Sprintf("%d changes of %d bytes", count, size))
				m.do(l...)
			}
			expect(t, s, m)
		}
	}
	_, s := fresh(t, 8)
	refused(t, s.Apply(ofSize(16, 100)), api.OK, "16 changes")
	for _, n := range []int{17, 18, 1000} {
		refused(t, s.Apply(slices.Repeat(changes{set("k", "v")}, n)), api.ErrLong, fmt.Sprint(n, " changes"))
	}
	var l changes
	for i := range 16 {
		l = append(l, gone(strings.Repeat(string([]byte{byte(i)}), 32)))
	}
	refused(t, s.Apply(l), api.OK, "16 changes that are gone")
	if s.Len() != 16 {
		t.Errorf("%d keys", s.Len())
	}
}

// P9.3: of several errors the first one; behind each nothing has changed, and no step was done.
func TestErrorsOfApply(t *testing.T) {
	p, s := fresh(t, 5)
	do(t, s, set("a", "1"))
	long := strings.Repeat("v", 1024)
	full := changes{set("x", long), set("y", long)}
	bad := []api.Change{
		set("", ""), set("", "v"), gone(""), set(strings.Repeat("k", 33), ""), gone(strings.Repeat("k", 33)),
		set("k", long+"v"), {Key: []byte("a"), Value: []byte("1"), Gone: true}, {Key: []byte("a"), Value: []byte(long + "v"), Gone: true},
	}
	steps := p.Steps()
	refuse := func(l changes, want api.Errno, what string) {
		t.Helper()
		refused(t, s.Apply(l), want, what)
	}
	for i, c := range bad {
		what := fmt.Sprint("the wrong change ", i)
		refuse(changes{c}, api.ErrKey, what)
		for at := range 16 {
			l := slices.Repeat(changes{set("b", "2")}, 16)
			l[at] = c
			refuse(l, api.ErrKey, what+fmt.Sprint(" at ", at))
		}
		refuse(append(slices.Clone(full), c), api.ErrKey, what+" behind too many bytes")
		refuse(slices.Repeat(changes{c}, 17), api.ErrLong, what+" 17 times")
		refuse(append(make(changes, 16), c), api.ErrLong, what+" behind 16 others")
	}
	refuse(full, api.ErrLong, "too many bytes")
	refuse(append(full, gone("a")), api.ErrLong, "too many bytes, and one gone")
	if p.Steps() != steps {
		t.Errorf("%d steps", p.Steps()-steps)
	}
	expect(t, s, plain{"a": "1"})
	expect(t, open(t, p, 0), plain{"a": "1"})
}

// P9.3: the changes of one Apply are done in their order; of no change nothing comes.
func TestOrderOfChanges(t *testing.T) {
	for _, x := range []struct {
		l    changes
		want plain
	}{
		{nil, plain{"a": "1", "b": "2"}},
		{changes{}, plain{"a": "1", "b": "2"}},
		{changes{set("a", "3"), set("a", "4")}, plain{"a": "4", "b": "2"}},
		{changes{set("a", "3"), gone("a")}, plain{"b": "2"}},
		{changes{gone("a"), set("a", "3")}, plain{"a": "3", "b": "2"}},
		{changes{gone("a"), gone("a")}, plain{"b": "2"}},
		{changes{set("c", "3"), gone("c")}, plain{"a": "1", "b": "2"}},
		{changes{gone("c")}, plain{"a": "1", "b": "2"}},
		{changes{gone("c"), set("c", "")}, plain{"a": "1", "b": "2", "c": ""}},
		{changes{gone("a"), gone("b")}, plain{}},
		{changes{set("a", "1")}, plain{"a": "1", "b": "2"}},
		{changes{set("b", "1"), set("a", "2"), set("b", "3"), gone("a"), set("a", "4"), gone("b")}, plain{"a": "4"}},
	} {
		p, s := fresh(t, 5)
		do(t, s, set("a", "1"))
		do(t, s, set("b", "2"))
		do(t, s, x.l...)
		expect(t, s, x.want)
		p.Boot(nil)
		s = open(t, p, 0)
		expect(t, s, x.want)
		compact(t, s)
		expect(t, s, x.want)
	}
}

// P9.4: what is no more is taken out of the log, and nothing else is seen of it; if nothing is, no step is done.
func TestCompact(t *testing.T) {
	for seed := range int64(60) {
		rnd := rand.New(rand.NewSource(seed))
		p, s := fresh(t, 6)
		m := plain{}
		for range 30 {
			l := randomChanges(rnd, m, 12)
			do(t, s, l...)
			m.do(l...)
			if rnd.Intn(3) > 0 {
				continue
			}
			room := s.log.Room()
			compact(t, s)
			if s.log.Room() < room-1 { // one more, if there is what was laid anew in the segment at hand, and in one behind it
				t.Fatalf("room for %d segments behind Compact, %d ahead", s.log.Room(), room)
			}
			expect(t, s, m)
			steps := p.Steps()
			compact(t, s)
			if p.Steps() != steps {
				t.Fatalf("%d steps of a Compact behind Compact", p.Steps()-steps)
			}
			if rnd.Intn(2) == 0 {
				s = open(t, p, 0)
				expectAllLive(t, s)
				expect(t, s, m)
			}
		}
	}
}

// P9.4: an empty store's log is empty.
func TestCompactOfNothing(t *testing.T) {
	p, s := fresh(t, 4)
	steps := p.Steps()
	compact(t, s)
	if p.Steps() != steps {
		t.Error("steps")
	}
	do(t, s, set("a", "1"))
	do(t, s, gone("a"), gone("b"))
	compact(t, s)
	if s.log.First() != 2 || s.log.Next() != 2 {
		t.Errorf("groups %d to %d", s.log.First(), s.log.Next())
	}
	expect(t, open(t, p, 0), plain{})
}

// layGroups lays changes into a log as a store does, without asking whether there is room for more.
func layGroups(t *testing.T, w *wal.Wal, l ...changes) {
	t.Helper()
	for i, c := range l {
		if _, e := w.Append(packAll(c)); e != api.OK {
			t.Fatalf("group %d: %v", i, e)
		}
	}
}

// P9.4: a log that is full to its last sector: Compact and Apply have no room, and nothing is lost.
func TestCompactWithoutRoom(t *testing.T) {
	p := disks(t, small)
	format(t, p, 0)
	w, e := wal.Open(p, 0)
	if e != api.OK {
		t.Fatal(e)
	}
	m := plain{}
	for no := range 4 {
		great, little := newKeys(53, no), newKeys(11, 100+no)
		if no == 3 {
			little[0] = great[15] // set twice
		}
		layGroups(t, w, great, little)
		m.do(great...)
		m.do(little...)
	}
	for range 2 {
		s := open(t, p, 0)
		if s.log.Room() != 0 || s.dead != 1 {
			t.Fatalf("room %d, %d dead", s.log.Room(), s.dead)
		}
		for range 2 {
			refused(t, s.Compact(), api.ErrFull, "Compact")
			refused(t, s.Apply(changes{gone("x")}), api.ErrFull, "Apply")
			expect(t, s, m)
		}
	}
}

// P9.7: the same changes, in one Apply or in several, lead to the same keys.
func TestChangesInOneOrInSeveral(t *testing.T) {
	for seed := range int64(200) {
		rnd := rand.New(rand.NewSource(seed))
		_, a := fresh(t, 6)
		_, b := fresh(t, 6)
		m := plain{}
		for range 10 {
			l := randomChanges(rnd, m, 6)
			do(t, a, l...)
			for rest := l; len(rest) > 0; {
				n := 1 + rnd.Intn(len(rest))
				do(t, b, rest[:n]...)
				rest = rest[n:]
			}
			m.do(l...)
		}
		expect(t, a, m)
		expect(t, b, m)
	}
}

// P9.1: Opens behind one another, and boots, tell the same.
func TestOpenBehindOpen(t *testing.T) {
	p, s := fresh(t, 5)
	m := plain{}
	rnd := rand.New(rand.NewSource(1))
	for i := range 100 {
		l := randomChanges(rnd, m, 3)
		do(t, s, l...)
		m.do(l...)
		for range i % 3 {
			s = open(t, p, 0)
			expect(t, s, m)
			p.Boot([]int{i % 4})
			s = open(t, p, 0)
			expect(t, s, m)
		}
	}
}

// P9.1: stores on two disks know nothing of one another.
func TestTwoStores(t *testing.T) {
	p := disks(t, sectors(5), sectors(6))
	var s [2]*Store
	m := [2]plain{{}, {}}
	for dev := range s {
		format(t, p, dev)
		s[dev] = open(t, p, dev)
	}
	rnd := rand.New(rand.NewSource(1))
	for i := range 200 {
		dev := rnd.Intn(2)
		l := randomChanges(rnd, m[dev], 3)
		do(t, s[dev], l...)
		m[dev].do(l...)
		if i%20 == 0 {
			p.Boot(nil)
			s[0], s[1] = open(t, p, 0), open(t, p, 1)
		}
		expect(t, s[0], m[0])
		expect(t, s[1], m[1])
	}
	format(t, p, 0)
	expect(t, s[1], m[1])
	expect(t, open(t, p, 0), plain{})
	expect(t, open(t, p, 1), m[1])
}

// R6: what is handed in is neither changed nor kept, nor is what stands behind its length read.
func TestApplyLeavesItsArgument(t *testing.T) {
	p, s := fresh(t, 5)
	room := []byte("keyvaluerest")
	l := changes{{Key: room[:3], Value: room[3:8]}, {Key: room[8:10], Gone: true}, set("x", "y")}[:2]
	do(t, s, l...)
	if string(room) != "keyvaluerest" || string(l[:3][2].Key) != "x" {
		t.Errorf("%q %v", room, l[:3])
	}
	copy(room, "............")
	expect(t, s, plain{"key": "value"})
	prefix := []byte("key.")[:2]
	if pairs, e := s.List(prefix); len(pairs) != 1 || e != api.OK || string(prefix[:4]) != "key." {
		t.Errorf("List: %q %v %q", pairs, e, prefix[:4])
	}
	key := []byte("key.")[:3]
	if v, is, e := s.Get(key); string(v) != "value" || !is || e != api.OK || string(key[:4]) != "key." {
		t.Errorf("Get: %q %v %v %q", v, is, e, key[:4])
	}
	expect(t, open(t, p, 0), plain{"key": "value"})
}

// R6: what comes out is the caller's, with its spare room; no two parts of it share any.
func TestAnswersAreNewMemory(t *testing.T) {
	_, s := fresh(t, 5)
	m := plain{"a": "1", "ab": "22", "b": "", "c": "333"}
	do(t, s, set("a", "1"), set("ab", "22"), set("b", ""), set("c", "333"))
	scrawl := func(b []byte, x byte) {
		b = b[:cap(b)]
		for i := range b {
			b[i] = x
		}
	}
	for range 2 {
		l, e := s.List(nil)
		if e != api.OK {
			t.Fatal(e)
		}
		for i := range l {
			scrawl(l[i].Key, byte(2*i))
			scrawl(l[i].Value, byte(2*i+1))
		}
		for i := range l {
			if bytes.Count(l[i].Key, []byte{byte(2 * i)}) != len(l[i].Key) || bytes.Count(l[i].Value, []byte{byte(2*i + 1)}) != len(l[i].Value) {
				t.Errorf("pair %d shares memory", i)
			}
		}
		for key := range m {
			v, _, _ := s.Get([]byte(key))
			scrawl(v, 'x')
		}
		expect(t, s, m)
	}
}

// scribble writes random bytes over some sectors.
func scribble(t *testing.T, p *plant.Plant, rnd *rand.Rand, sectors int) {
	t.Helper()
	b := make([]byte, api.SectorSize)
	for range 1 + rnd.Intn(sectors) {
		rnd.Read(b)
		if e := p.Write(0, rnd.Intn(sectors), b); e != api.OK {
			t.Fatal(e)
		}
	}
	p.Flush(0)
}

// ask makes all calls of a store, whatever it is: none panics, and all end.
func ask(t *testing.T, s *Store) {
	t.Helper()
	l, e := s.List(nil)
	if e != api.OK && (len(l) > 0 || e != api.ErrCorrupt && e != api.ErrPower) {
		t.Errorf("List: %q %v", l, e)
	}
	for _, key := range []string{"", "a", "b", "0", "1"} {
		s.Get([]byte(key))
	}
	for i := range 30 {
		s.Apply(changes{set("a", strings.Repeat("x", 34*i)), gone("b"), set("0", "1")})
		if i%10 == 0 {
			s.Compact()
		}
	}
	s.Compact()
	if s.Len() < 0 {
		t.Error(s.Len())
	}
}

// R4: no bytes on a disk make a call panic.
func TestAnyBytes(t *testing.T) {
	stores := 0
	for seed := range int64(300) {
		rnd := rand.New(rand.NewSource(seed))
		p, s := fresh(t, 4)
		for i := range rnd.Intn(40) {
			do(t, s, set(fmt.Sprint(i%5), strings.Repeat("x", rnd.Intn(100))))
		}
		if rnd.Intn(2) == 0 {
			s = open(t, p, 0)
			scribble(t, p, rnd, small)
			ask(t, s)
		}
		b := make([]byte, api.SectorSize)
		for range rnd.Intn(4) {
			rnd.Read(b)
			p.Write(0, 2+rnd.Intn(small-2), b)
		}
		s, e := Open(p, 0)
		if (s == nil) != (e == api.ErrCorrupt) {
			t.Fatalf("Open: %v %v", s, e)
		}
		if s != nil {
			stores++
			ask(t, s)
		}
		format(t, p, 0)
		expect(t, open(t, p, 0), plain{})
	}
	if stores < 50 {
		t.Errorf("only %d stores", stores)
	}
}

// R4: a log whose records no Apply laid down is no store.
func TestRecordsThatAreNoChanges(t *testing.T) {
	good := pack(set("key", "value"))
	for _, x := range []struct {
		name    string
		records [][]byte
		want    api.Errno
	}{
		{"a change", [][]byte{good}, api.OK},
		{"no record", nil, api.OK},
		{"a change and an empty record", [][]byte{good, nil}, api.ErrCorrupt},
		{"three bytes", [][]byte{good[:3]}, api.ErrCorrupt},
		{"four bytes", [][]byte{good[:4]}, api.ErrCorrupt},
		{"a byte less", [][]byte{good[:len(good)-1]}, api.ErrCorrupt},
		{"a byte more", [][]byte{append(slices.Clone(good), 'x')}, api.ErrCorrupt},
		{"no key", [][]byte{{0, 0, 0, 1, 'v'}}, api.ErrCorrupt},
		{"a key of 33 bytes", [][]byte{append([]byte{0, 33, 0, 0}, make([]byte, 33)...)}, api.ErrCorrupt},
		{"a key of 32 bytes", [][]byte{append([]byte{0, 32, 0, 0}, make([]byte, 32)...)}, api.OK},
		{"a value of 1024 bytes", [][]byte{append([]byte{0, 1, 4, 0}, make([]byte, 1025)...)}, api.OK},
		{"a value of 1025 bytes", [][]byte{append([]byte{0, 1, 4, 1}, make([]byte, 1026)...)}, api.ErrCorrupt},
		{"gone", [][]byte{{1, 1, 0, 0, 'k'}}, api.OK},
		{"gone with a value", [][]byte{{1, 1, 0, 1, 'k', 'v'}}, api.ErrCorrupt},
		{"neither set nor gone", [][]byte{{2, 1, 0, 0, 'k'}}, api.ErrCorrupt},
		{"lengths that are not there", [][]byte{{0, 255, 255, 255, 'k'}}, api.ErrCorrupt},
	} {
		p := disks(t, small)
		format(t, p, 0)
		w, _ := wal.Open(p, 0)
		if _, e := w.Append(x.records); e != api.OK {
			t.Fatal(x.name, e)
		}
		s, e := Open(p, 0)
		refused(t, e, x.want, x.name)
		if (s != nil) != (x.want == api.OK) {
			t.Errorf("%s: a store: %v", x.name, s != nil)
		}
		if s != nil {
			ask(t, s)
		}
	}
	if _, is := unpackAll(slices.Repeat([][]byte{good}, 17)); is {
		t.Error("17 records are taken for an Apply's")
	}
}

// R3: none of the calls of a store panics, and all end, that another one has overtaken, or whose disk was formatted or booted since.
func TestAStoreThatIsNotAskedAnyMore(t *testing.T) {
	for seed := range int64(40) {
		rnd := rand.New(rand.NewSource(seed))
		p, s := fresh(t, 5)
		l := []*Store{s}
		m := plain{}
		for i := range 60 {
			c := randomChanges(rnd, m, 3)
			do(t, s, c...)
			m.do(c...)
			if i%10 == 9 {
				s = open(t, p, 0)
				l = append(l, s)
			}
		}
		if seed%2 == 0 {
			format(t, p, 0)
		}
		for _, s := range l {
			ask(t, s)
		}
		if seed%3 == 0 {
			p.Fuse(rnd.Intn(10))
		}
		for _, s := range l {
			ask(t, s)
		}
	}
}

// R4: what another hand changed on the disk is told, and nothing beside it.
func TestReadOfWhatIsNotThere(t *testing.T) {
	for name, other := range map[string]changes{
		"fewer changes": {set("a", "1")},
		"another key":   {set("a", "1"), set("c", "2"), set("d", "2")},
		"a key gone":    {set("a", "1"), gone("b"), set("d", "2")},
	} {
		p, s := fresh(t, 5)
		do(t, s, set("a", "1"), set("b", "2"), set("d", "2"))
		do(t, s, set("d", "3")) // one is dead
		format(t, p, 0)
		do(t, open(t, p, 0), other...)
		if v, is, e := s.Get([]byte("b")); len(v) != 0 || is || e != api.ErrCorrupt {
			t.Errorf("%s: Get: %q %v %v", name, v, is, e)
		}
		if l, e := s.List(nil); len(l) != 0 || e != api.ErrCorrupt {
			t.Errorf("%s: List: %q %v", name, l, e)
		}
		refused(t, s.Compact(), api.ErrCorrupt, name+": Compact")
	}
}

// What goes off deep inside and is no error of ours is not hidden.
func TestOnlyErrorsAreCaught(t *testing.T) {
	defer func() {
		if x := recover(); x != "a fault" {
			t.Errorf("recovered: %v", x)
		}
	}()
	caught(func() { panic("a fault") })
	t.Error("caught")
}
