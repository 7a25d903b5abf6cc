package route

import (
	"math"
	"math/rand"
	"slices"
	"strconv"
	"strings"
	"testing"

	"groat/api"
)

func must(t *testing.T, members int, l ...api.Route) *Table {
	t.Helper()
	x, e := New(l, members)
	if e != api.OK || x == nil {
		t.Fatalf("New(%v, %d): %v", l, members, e)
	}
	return x
}

// of is a route in few words.
func of(prefix string, to ...int) api.Route { return api.Route{Prefix: prefix, To: to} }

// plain is a table in the chapter's words: its routes, in the order in which they were added.
type plain struct {
	members int
	l       []api.Route
}

func (p *plain) at(prefix string) int {
	return slices.IndexFunc(p.l, func(r api.Route) bool { return r.Prefix == prefix })
}

func (p *plain) add(r api.Route) api.Errno {
	if len(r.Prefix) == 0 || len(r.Prefix) > 8 || strings.Trim(r.Prefix, "0123456789") != "" {
		return api.ErrRoutePrefix
	}
	had := map[int]int{}
	for _, member := range r.To {
		had[member]++
		if had[member] > 1 || member < 0 || member > p.members-1 {
			return api.ErrRouteTo
		}
	}
	if len(r.To) == 0 || len(r.To) > 6 {
		return api.ErrRouteTo
	}
	if p.at(r.Prefix) >= 0 {
		return api.ErrRouteTwice
	}
	if len(p.l) >= 32 {
		return api.ErrFull
	}
	p.l = append(p.l, of(r.Prefix, slices.Clone(r.To)...))
	return api.OK
}

func (p *plain) drop(prefix string) api.Errno {
	i := p.at(prefix)
	if i < 0 {
		return api.ErrRouteNone
	}
	p.l = slices.Delete(p.l, i, i+1)
	return api.OK
}

func (p *plain) find(pan string) ([]int, bool) {
	var best api.Route
	for _, r := range p.l {
		if strings.HasPrefix(pan, r.Prefix) && len(r.Prefix) > len(best.Prefix) {
			best = r
		}
	}
	return best.To, best.To != nil
}

func (p *plain) list() []api.Route {
	l := slices.Clone(p.l)
	slices.SortFunc(l, func(a, b api.Route) int { return strings.Compare(a.Prefix, b.Prefix) })
	return l
}

func sameRoutes(a, b []api.Route) bool {
	return slices.EqualFunc(a, b, func(a, b api.Route) bool {
		return a.Prefix == b.Prefix && slices.Equal(a.To, b.To)
	})
}

// expectFind holds Find against what it is to answer: none, if no members are wanted.
func expectFind(t *testing.T, x *Table, pan string, want ...int) {
	t.Helper()
	if to, is := x.Find(pan); is != (len(want) > 0) || !slices.Equal(to, want) {
		t.Errorf("Find(%q): %v %v, want %v", pan, to, is, want)
	}
}

func expectList(t *testing.T, x *Table, want ...api.Route) {
	t.Helper()
	if l := x.List(); !sameRoutes(l, want) {
		t.Errorf("List: %v, want %v", l, want)
	}
}

// expectRefused holds that Add answers just that, and that nothing has changed.
func expectRefused(t *testing.T, x *Table, r api.Route, want api.Errno) {
	t.Helper()
	before := x.List()
	if e := x.Add(r); e != want {
		t.Errorf("Add(%q, %v): %v, want %v", r.Prefix, r.To, e, want)
	}
	expectList(t, x, before...)
}

func add(t *testing.T, x *Table, r api.Route) {
	t.Helper()
	if e := x.Add(r); e != api.OK {
		t.Errorf("Add(%q, %v): %v", r.Prefix, r.To, e)
	}
}

func drop(t *testing.T, x *Table, prefix string, want api.Errno) {
	t.Helper()
	if e := x.Drop(prefix); e != want {
		t.Errorf("Drop(%q): %v, want %v", prefix, e, want)
	}
}

// several are as many routes of different prefixes, by rising ones, none of which begins with 9.
func several(n int) []api.Route {
	l := make([]api.Route, n)
	for i := range l {
		l[i] = of(strconv.Itoa(100+i), i%3)
	}
	return l
}

// subsets are all lists of different members, in each order, the empty one too.
func subsets(members int) [][]int {
	all := [][]int{nil}
	for i := 0; i < len(all); i++ {
		for member := range members {
			if !slices.Contains(all[i], member) {
				all = append(all, append(slices.Clone(all[i]), member))
			}
		}
	}
	return all
}

// The chapter's examples.
func TestExamples(t *testing.T) {
	x := must(t, 3, of("4", 1), of("45", 2, 1))
	expectFind(t, x, "4512", 2, 1)
	expectFind(t, x, "4612", 1)
	expectFind(t, x, "5")
	expectRefused(t, x, of("45", 0), api.ErrRouteTwice)
	expectRefused(t, x, of("4a", 0), api.ErrRoutePrefix)
	expectRefused(t, x, of("5"), api.ErrRouteTo)
	expectRefused(t, x, of("5", 3), api.ErrRouteTo)
	expectRefused(t, x, of("5", 1, 1), api.ErrRouteTo)
	drop(t, x, "45", api.OK)
	drop(t, x, "45", api.ErrRouteNone)
	expectFind(t, x, "4512", 1)
}

// The errors' and limits' numbers, as the chapter says them.
func TestNumbers(t *testing.T) {
	got := []api.Errno{api.ErrFull, api.ErrMember, api.ErrRoutePrefix, api.ErrRouteTwice, api.ErrRouteTo, api.ErrRouteNone, api.MaxMembers, api.MaxRoutes}
	if want := []api.Errno{3, 130, 110, 111, 112, 113, 6, 32}; !slices.Equal(got, want) {
		t.Error(got, want)
	}
}

// P11.1: a prefix has 1 to 8 digits.
func TestPrefixesByLength(t *testing.T) {
	for n := range 40 {
		x := must(t, 1)
		text := strings.Repeat("0123456789", 4)[:n]
		if n < 1 || n > 8 {
			expectRefused(t, x, of(text, 0), api.ErrRoutePrefix)
			continue
		}
		add(t, x, of(text, 0))
		expectList(t, x, of(text, 0))
		expectFind(t, x, text, 0)
	}
	expectRefused(t, must(t, 1), of(strings.Repeat("7", 5000), 0), api.ErrRoutePrefix)
}

// P11.1: each byte in each place of a prefix: just the digits may stand there.
func TestPrefixesByBytes(t *testing.T) {
	for n := 1; n <= 8; n++ {
		for at := range n {
			for c := range 256 {
				b := []byte(strings.Repeat("5", n))
				b[at] = byte(c)
				x := must(t, 1)
				if c >= '0' && c <= '9' {
					add(t, x, of(string(b), 0))
					expectList(t, x, of(string(b), 0))
				} else {
					expectRefused(t, x, of(string(b), 0), api.ErrRoutePrefix)
				}
			}
		}
	}
}

// P11.1: digits of other scripts, and what looks like a number, are no digits.
func TestPrefixesThatOnlyLookSo(t *testing.T) {
	for _, text := range []string{" ", "4 ", " 4", "-4", "+4", "4.5", "0x4", "4_5", "4\x00", "\x00", "٤", "४", "\xef\xbc\x94", "²", "\xb4", "\xff", "4\n"} {
		expectRefused(t, must(t, 1), of(text, 0), api.ErrRoutePrefix)
	}
}

// P11.1: all lists of different members may be, but the empty one, for each number of members; their order stays.
func TestMembers(t *testing.T) {
	for members := 1; members <= 6; members++ {
		for _, to := range subsets(members) {
			x := must(t, members)
			if len(to) == 0 {
				expectRefused(t, x, of("4", to...), api.ErrRouteTo)
				expectRefused(t, x, api.Route{Prefix: "4", To: []int{}}, api.ErrRouteTo)
				continue
			}
			add(t, x, of("4", to...))
			expectFind(t, x, "4", to...)
			expectList(t, x, of("4", to...))
		}
	}
}

// P11.1: a member that there is not, or one twice, in each place of each list.
func TestMembersThatCantBe(t *testing.T) {
	for members := 1; members <= 4; members++ {
		x := must(t, members)
		for _, to := range subsets(members) {
			for at := range len(to) + 1 {
				for _, none := range []int{members, members + 1, 6, 7, 1 << 32, math.MaxInt, -1, -members, math.MinInt} {
					expectRefused(t, x, of("4", slices.Insert(slices.Clone(to), at, none)...), api.ErrRouteTo)
				}
				for _, twice := range to {
					expectRefused(t, x, of("4", slices.Insert(slices.Clone(to), at, twice)...), api.ErrRouteTo)
				}
			}
		}
	}
}

// P11.1: more than six.
func TestTooManyMembers(t *testing.T) {
	x := must(t, 6)
	expectRefused(t, x, of("4", 0, 1, 2, 3, 4, 5, 0), api.ErrRouteTo)
	expectRefused(t, x, of("4", 0, 1, 2, 3, 4, 5, 6), api.ErrRouteTo)
	expectRefused(t, x, of("4", make([]int, 5000)...), api.ErrRouteTo)
	add(t, x, of("4", 0, 1, 2, 3, 4, 5))
}

// P11.1: a prefix that there is, whatever its members are; one that is shorter or longer is another one.
func TestTwice(t *testing.T) {
	x := must(t, 3, of("45", 1))
	for _, to := range subsets(3)[1:] {
		expectRefused(t, x, of("45", to...), api.ErrRouteTwice)
	}
	for _, prefix := range []string{"4", "450", "455", "54", "045", "44", "46"} {
		add(t, x, of(prefix, 0))
		expectRefused(t, x, of(prefix, 1), api.ErrRouteTwice)
	}
}

// P11.1: 32 prefixes, and none more, till one is dropped.
func TestFull(t *testing.T) {
	x := must(t, 3)
	for _, r := range several(32) {
		add(t, x, r)
	}
	expectList(t, x, several(32)...)
	for range 3 {
		expectRefused(t, x, of("9", 0), api.ErrFull)
		drop(t, x, "105", api.OK)
		add(t, x, of("9", 1, 2))
		expectFind(t, x, "9", 1, 2)
		expectRefused(t, x, of("105", 0), api.ErrFull)
		drop(t, x, "9", api.OK)
		add(t, x, of("105", 2))
	}
}

// P11.1: of several errors the one that is named first.
func TestOrderOfErrors(t *testing.T) {
	wrongs := []string{"", "123456789", "4a", "10x"}
	tos := [][]int{nil, {3}, {-1}, {1, 1}, {0, 1, 2, 0, 1, 2, 0}}
	for _, n := range []int{0, 1, 31, 32} {
		x := must(t, 3, several(n)...)
		for _, prefix := range wrongs {
			expectRefused(t, x, of(prefix, 0), api.ErrRoutePrefix)
			for _, to := range tos {
				expectRefused(t, x, of(prefix, to...), api.ErrRoutePrefix)
			}
		}
		for _, to := range tos {
			expectRefused(t, x, of("100", to...), api.ErrRouteTo)
			expectRefused(t, x, of("9", to...), api.ErrRouteTo)
		}
		if n > 0 {
			expectRefused(t, x, of("100", 0), api.ErrRouteTwice)
		}
	}
}

// P11.1: Drop of what is not there, be it a prefix or none, changes nothing; what was dropped may be added anew.
func TestDrop(t *testing.T) {
	x := must(t, 3, of("4", 1), of("45", 2, 1), of("4512", 0))
	for _, prefix := range []string{"", "5", "451", "45120", "45123456", "123456789", "4a", " 4", "45 ", "\xff", strings.Repeat("4", 5000)} {
		drop(t, x, prefix, api.ErrRouteNone)
		expectList(t, x, of("4", 1), of("45", 2, 1), of("4512", 0))
	}
	drop(t, x, "45", api.OK)
	drop(t, x, "45", api.ErrRouteNone)
	expectList(t, x, of("4", 1), of("4512", 0))
	expectFind(t, x, "4511", 1)
	expectFind(t, x, "4512", 0)
	add(t, x, of("45", 0, 2))
	expectFind(t, x, "4511", 0, 2)
	for _, prefix := range []string{"4512", "4", "45"} {
		drop(t, x, prefix, api.OK)
		drop(t, x, prefix, api.ErrRouteNone)
	}
	expectList(t, x)
	expectFind(t, x, "4512")
	drop(t, x, "", api.ErrRouteNone)
}

// P11.2: 1 to 6 members, and no others, ahead of what is wrong with the routes.
func TestNewForMembers(t *testing.T) {
	for members := -3; members <= 20; members++ {
		for _, l := range [][]api.Route{nil, {}, {of("4", 0)}, {of("4a")}, {of("4", 99)}} {
			x, e := New(l, members)
			if members >= 1 && members <= 6 {
				if (e == api.OK) != (x != nil) || e == api.ErrMember {
					t.Error(l, members, e)
				}
			} else if x != nil || e != api.ErrMember {
				t.Error(l, members, e)
			}
		}
	}
	for _, members := range []int{math.MinInt, -1 << 32, 1<<32 + 1, 1 << 32, math.MaxInt} {
		if x, e := New(nil, members); x != nil || e != api.ErrMember {
			t.Error(members, e)
		}
	}
}

// P11.2: the members are 0 to members - 1, later as well as at New.
func TestNewsMembers(t *testing.T) {
	for members := 1; members <= 6; members++ {
		last := of("4", members-1)
		x := must(t, members, last)
		expectList(t, x, last)
		add(t, x, of("5", members-1))
		expectRefused(t, x, of("6", members), api.ErrRouteTo)
		if x, e := New([]api.Route{last, of("5", members)}, members); x != nil || e != api.ErrRouteTo {
			t.Error(members, e)
		}
	}
}

// P11.2: a table of no routes, and of all of l.
func TestNewOfRoutes(t *testing.T) {
	for _, l := range [][]api.Route{nil, {}, several(1), several(31), several(32)} {
		x := must(t, 3, l...)
		expectList(t, x, l...)
		for _, r := range l {
			expectFind(t, x, r.Prefix, r.To...)
		}
		expectFind(t, x, "9")
	}
}

// P11.2: the error of the first route that is refused, in their order, and no table.
func TestNewsErrors(t *testing.T) {
	for i, c := range []struct {
		l []api.Route
		e api.Errno
	}{
		{[]api.Route{of("4a", 0)}, api.ErrRoutePrefix},
		{[]api.Route{of("4")}, api.ErrRouteTo},
		{[]api.Route{of("4", 0), of("4", 1)}, api.ErrRouteTwice},
		{[]api.Route{of("4", 0), of("5", 0), of("4", 0), of("", 0), of("6", 3)}, api.ErrRouteTwice},
		{[]api.Route{of("4", 0), of("", 0), of("4", 0), of("6", 3)}, api.ErrRoutePrefix},
		{[]api.Route{of("4", 0), of("6", 3), of("4", 0), of("", 0)}, api.ErrRouteTo},
		{append(several(32), of("9", 0)), api.ErrFull},
		{append(several(32), of("9", 0), of("4a", 0)), api.ErrFull},
		{append(several(32), of("4a", 0), of("9", 0)), api.ErrRoutePrefix},
		{append(several(32), of("9"), of("9", 0)), api.ErrRouteTo},
		{append(several(32), of("131", 0), of("9", 0)), api.ErrRouteTwice},
		{append(several(31), of("9", 0), of("8", 0)), api.ErrFull},
		{several(1000), api.ErrFull},
	} {
		if x, e := New(c.l, 3); x != nil || e != c.e {
			t.Error(i, e, "want", c.e)
		}
	}
}

// P11.3: prefixes that begin with one another, each length of them there or not.
func TestLongestPrefix(t *testing.T) {
	const pan = "4512345678"
	for set := range 1 << 8 {
		x := must(t, 6)
		p := &plain{members: 6}
		for n := 1; n <= 8; n++ {
			if set>>(n-1)&1 == 1 {
				r := of(pan[:n], n%6, (n+1)%6)
				add(t, x, r)
				p.add(r)
			}
		}
		for n := range len(pan) + 1 {
			for _, text := range []string{pan[:n], pan[:n] + "9", pan[:n] + "x", pan[:n] + "\x00\xff"} {
				want, _ := p.find(text)
				expectFind(t, x, text, want...)
			}
		}
	}
}

// P11.3: any text may be asked for; what stands behind the prefix is not looked at.
func TestFindOfAnyText(t *testing.T) {
	x := must(t, 3, of("4", 1), of("45", 2, 1), of("00000000", 0))
	for _, pan := range []string{"", " ", "5", "5445", " 4", "-4", "\x004", "٤", "\xff", "x45", "0", "0000000", "000000010", strings.Repeat("5", 5000)} {
		expectFind(t, x, pan)
	}
	for _, pan := range []string{"4", "4 ", "4x", "44", "4\x00", "4\xff", "46", "4" + strings.Repeat("4", 5000)} {
		expectFind(t, x, pan, 1)
	}
	for _, pan := range []string{"45", "45 ", "45x", "4545", "4500000000000003", "45" + strings.Repeat("5", 5000)} {
		expectFind(t, x, pan, 2, 1)
	}
	for _, pan := range []string{"00000000", "000000000", "00000000x", strings.Repeat("0", 5000)} {
		expectFind(t, x, pan, 0)
	}
	expectFind(t, must(t, 6), "4")
	expectFind(t, must(t, 6), "")
}

// P11.3: List is by rising prefixes as texts, not as numbers.
func TestList(t *testing.T) {
	want := []api.Route{of("0", 2), of("00", 1), of("00000000", 0), of("01", 1), of("1", 0, 2), of("10", 2, 1, 0), of("100", 1), of("12345678", 2), of("2", 0), of("9", 1), of("90", 0), of("99999999", 2)}
	rnd := rand.New(rand.NewSource(113))
	for range 200 {
		l := slices.Clone(want)
		rnd.Shuffle(len(l), func(i, j int) { l[i], l[j] = l[j], l[i] })
		expectList(t, must(t, 3, l...), want...)
	}
	expectList(t, must(t, 3))
}

// P11.4: a clone answers as the other one, and neither sees what is done to the other.
func TestClone(t *testing.T) {
	l := []api.Route{of("4", 1), of("45", 2, 1)}
	x := must(t, 3, l...)
	y := x.Clone()
	z := y.Clone()
	expectList(t, y, l...)
	drop(t, x, "45", api.OK)
	add(t, x, of("6", 0))
	expectList(t, x, of("4", 1), of("6", 0))
	expectList(t, y, l...)
	drop(t, y, "4", api.OK)
	add(t, y, of("4", 0))
	add(t, y, of("7", 2))
	expectList(t, x, of("4", 1), of("6", 0))
	expectList(t, y, of("4", 0), of("45", 2, 1), of("7", 2))
	expectList(t, z, l...)
	expectFind(t, x, "4512", 1)
	expectFind(t, y, "4512", 2, 1)
	expectFind(t, y, "4", 0)
	expectFind(t, z, "7")
}

// P11.4: a clone is for as many members, and is as full.
func TestClonesBounds(t *testing.T) {
	for members := 1; members <= 6; members++ {
		y := must(t, members).Clone()
		expectList(t, y)
		add(t, y, of("4", members-1))
		expectRefused(t, y, of("5", members), api.ErrRouteTo)
	}
	x := must(t, 3, several(32)...)
	y := x.Clone()
	expectRefused(t, y, of("9", 0), api.ErrFull)
	drop(t, x, "100", api.OK)
	expectRefused(t, y, of("9", 0), api.ErrFull)
	add(t, x, of("9", 0))
	expectRefused(t, y, of("100", 0), api.ErrRouteTwice)
}

// P11.5: the order in which prefixes were added, and what was there in between, is not seen.
func TestOrderOfAddsIsNotSeen(t *testing.T) {
	l := []api.Route{of("4", 1), of("45", 2, 1), of("451", 0), of("5", 0, 1, 2), of("0", 2)}
	pans := []string{"", "4", "44", "45", "450", "451", "4512", "5", "51", "0", "00", "1"}
	first := must(t, 3, l...)
	for _, order := range subsets(len(l)) {
		if len(order) < len(l) {
			continue
		}
		x, y := must(t, 3), must(t, 3, of("44", 0), of("4512", 0))
		for _, i := range order {
			add(t, x, l[i])
			add(t, y, l[i])
		}
		drop(t, y, "44", api.OK)
		drop(t, y, "4512", api.OK)
		for _, z := range []*Table{x, y} {
			expectList(t, z, first.List()...)
			for _, pan := range pans {
				want, _ := first.Find(pan)
				expectFind(t, z, pan, want...)
			}
		}
	}
}

// P11.5: a longer prefix changes the answer just for the cards that begin with it.
func TestLongerPrefixChangesJustItsCards(t *testing.T) {
	for n := 2; n <= 8; n++ {
		prefix := "45678901"[:n]
		x := must(t, 3, of("4", 1), of("5", 0))
		y := x.Clone()
		add(t, y, of(prefix, 2))
		for number := range 10000 {
			pan := strconv.Itoa(number)
			for _, pan := range []string{pan, "4567" + pan, "45678" + pan} {
				want, _ := x.Find(pan)
				if strings.HasPrefix(pan, prefix) {
					want = []int{2}
				}
				expectFind(t, y, pan, want...)
			}
		}
	}
}

// R6: what is handed in is neither changed, nor kept, nor read behind its length.
func TestWhatIsHandedIn(t *testing.T) {
	room := []int{1, 2, 0, 0}
	l := []api.Route{{Prefix: "4", To: room[:2]}}
	x := must(t, 3, l...)
	add(t, x, api.Route{Prefix: "5", To: room[1:2]})
	want := []api.Route{of("4", 1, 2), of("5", 2)}
	x.Find("4")
	drop(t, x, "5", api.OK)
	add(t, x, of("5", 2))
	if !slices.Equal(room, []int{1, 2, 0, 0}) || l[0].Prefix != "4" || len(l[0].To) != 2 {
		t.Error("changed", room, l)
	}
	for i := range room {
		room[i] = 77
	}
	l[0] = of("6", 0)
	expectList(t, x, want...)
	expectFind(t, x, "4", 1, 2)
}

// R6: what comes out is the caller's, its spare room too.
func TestWhatComesOut(t *testing.T) {
	l := []api.Route{of("4", 1, 2, 0), of("45", 2), of("5", 0, 1)}
	x := must(t, 3, l...)
	y := x.Clone()
	spoil := func(to []int) {
		for i := range to[:cap(to)] {
			to[:cap(to)][i] = 77
		}
	}
	for _, z := range []*Table{x, y, x} {
		before, _ := z.Find("4")
		to, _ := z.Find("4")
		spoil(to)
		got := z.List()
		spoil(got[0].To)
		if !sameRoutes(got[1:], l[1:]) {
			t.Error("one list's members stand in another's room", got)
		}
		for i := range got[:cap(got)] {
			got[:cap(got)][i] = of("6", 0)
		}
		if !slices.Equal(before, l[0].To) {
			t.Error("two answers share their room", before)
		}
		expectList(t, x, l...)
		expectList(t, y, l...)
	}
}

// anyPrefix is mostly one that may be, of few digits, so that prefixes meet.
func anyPrefix(rnd *rand.Rand) string {
	b := make([]byte, rnd.Intn(5))
	if rnd.Intn(10) == 0 {
		b = make([]byte, rnd.Intn(12))
	}
	for i := range b {
		b[i] = "012"[rnd.Intn(3)]
		if rnd.Intn(60) == 0 {
			b[i] = "/:a \xff"[rnd.Intn(5)]
		}
	}
	return string(b)
}

// anyMembers are mostly such as may be.
func anyMembers(rnd *rand.Rand, members int) []int {
	to := rnd.Perm(members)[:rnd.Intn(members+1)]
	if rnd.Intn(8) == 0 {
		to = append(to, rnd.Intn(9)-1)
	}
	return to
}

// P11.1, P11.3, P11.4: calls by chance, on a table and on its clones, held against plain ones.
func TestByChance(t *testing.T) {
	full := 0
	for seed := range int64(60) {
		rnd := rand.New(rand.NewSource(seed))
		members := 1 + rnd.Intn(6)
		tables, plains := []*Table{must(t, members)}, []*plain{{members: members}}
		for range 600 {
			at := rnd.Intn(len(tables))
			x, p := tables[at], plains[at]
			if rnd.Intn(4) > 0 {
				r := of(anyPrefix(rnd), anyMembers(rnd, members)...)
				want := p.add(r)
				if e := x.Add(r); e != want {
					t.Fatalf("seed %d: Add(%q, %v): %v, want %v", seed, r.Prefix, r.To, e, want)
				}
				if want == api.ErrFull {
					full++
				}
			} else {
				prefix := anyPrefix(rnd)
				drop(t, x, prefix, p.drop(prefix))
			}
			expectList(t, x, p.list()...)
			pan := anyPrefix(rnd) + anyPrefix(rnd)
			want, _ := p.find(pan)
			expectFind(t, x, pan, want...)
			if len(tables) < 4 && rnd.Intn(50) == 0 {
				tables = append(tables, x.Clone())
				plains = append(plains, &plain{members, slices.Clone(p.l)})
			}
		}
		for i, x := range tables {
			expectList(t, x, plains[i].list()...)
		}
	}
	if full < 100 {
		t.Error("only", full, "calls found a table full")
	}
}
