package standin

import (
	"maps"
	"math"
	"math/rand"
	"runtime"
	"slices"
	"strconv"
	"strings"
	"testing"

	"groat/api"
)

const (
	least    = math.MinInt
	greatest = math.MaxInt
	most     = api.MaxAmount
)

// wrongAmounts are none: below, above, and such as look right in fewer bits.
var wrongAmounts = []int{least, least + 1, least + 5, -1 << 40, -1 << 32, 5 - 1<<32, -most - 1, -most, -5, -1, most + 1, most + 2, 2 * most, 1 << 40, 1 << 62, greatest - 1, greatest}

// of are limits in few words.
func of(mostAtOnce, daily int) api.Stand { return api.Stand{Most: mostAtOnce, Daily: daily} }

// free are as many limits as wide as they may be.
func free(members int) []api.Stand { return slices.Repeat([]api.Stand{of(most, most)}, members) }

func must(t *testing.T, l ...api.Stand) *Desk {
	t.Helper()
	d, e := New(l)
	if e != api.OK || d == nil {
		t.Fatalf("New(%v): %v", l, e)
	}
	return d
}

// noneOf are numbers of no member, of so many: below, above, and such as look right in fewer bits.
func noneOf(members int) []int {
	l := []int{least, -1 << 32, -members - 1, -members, -2, -1, members, members + 1, 6, 7, 256, 1 << 16, 1 << 32, 1<<32 + members - 1, greatest}
	return slices.DeleteFunc(l, func(member int) bool { return member >= 0 && member < members })
}

// short is a text, or as much of it as one can read.
func short(text string) string { return text[:min(len(text), 30)] }

func ask(t *testing.T, d *Desk, member int, pan string, amount int, want api.Errno) {
	t.Helper()
	if e := d.Ask(member, pan, amount); e != want {
		t.Errorf("Ask(%d, %q, %d): %v, want %v", member, short(pan), amount, e, want)
	}
}

func expectHad(t *testing.T, d *Desk, member int, pan string, want int) {
	t.Helper()
	if n := d.Had(member, pan); n != want {
		t.Errorf("Had(%d, %q): %d, want %d", member, short(pan), n, want)
	}
}

// expectUnchanged holds that Ask answers just that, and that the desk is as it was.
func expectUnchanged(t *testing.T, d *Desk, member int, pan string, amount int, want api.Errno) {
	t.Helper()
	before := maps.Clone(d.had)
	ask(t, d, member, pan, amount, want)
	if !maps.Equal(d.had, before) {
		t.Errorf("Ask(%d, %q, %d): %v, was %v", member, short(pan), amount, d.had, before)
	}
}

// expectRoom holds, by asking clones, that a card may have just so much more of a member at once.
func expectRoom(t *testing.T, d *Desk, member int, pan string, room int) {
	t.Helper()
	had := d.Had(member, pan)
	x := d.Clone()
	ask(t, x, member, pan, room, api.OK)
	expectHad(t, x, member, pan, had+room)
	if room < most {
		expectUnchanged(t, d.Clone(), member, pan, room+1, api.ErrLimit)
	}
}

func expectNoDesk(t *testing.T, l []api.Stand, want api.Errno) {
	t.Helper()
	if d, e := New(l); d != nil || e != want {
		t.Errorf("New(%v): %v, want %v", l[:min(len(l), 8)], e, want)
	}
}

// The chapter's examples.
func TestExamples(t *testing.T) {
	d := must(t, of(100, 150))
	ask(t, d, 0, "4", 100, api.OK)
	ask(t, d, 0, "4", 60, api.ErrLimit)
	ask(t, d, 0, "4", 50, api.OK)
	expectHad(t, d, 0, "4", 150)
	ask(t, d, 0, "5", 101, api.ErrLimit)
	ask(t, d, 1, "5", 1, api.ErrMember)
	ask(t, d, 0, "5", -1, api.ErrMoney)
	d.Reset()
	expectHad(t, d, 0, "4", 0)
}

// The errors' and limits' numbers, as the chapter and DOC.md say them.
func TestNumbers(t *testing.T) {
	got := []int{int(api.ErrMoney), int(api.ErrMember), int(api.ErrLimit), api.MaxMembers, api.MaxAmount}
	if want := []int{100, 130, 150, 6, 999999999999}; !slices.Equal(got, want) {
		t.Error(got, want)
	}
}

// P15.1: 1 to 6 members, and no others, ahead of what is wrong with their limits.
func TestHowManyMembers(t *testing.T) {
	expectNoDesk(t, nil, api.ErrMember)
	expectNoDesk(t, []api.Stand{}, api.ErrMember)
	for _, s := range []api.Stand{of(0, 0), of(100, 150), of(most, most)} {
		for members := 1; members <= 6; members++ {
			must(t, slices.Repeat([]api.Stand{s}, members)...)
		}
	}
	for _, s := range []api.Stand{of(0, 0), of(100, 150), of(most, most), of(-1, 0), of(0, most+1)} {
		for _, members := range []int{7, 8, 12, 256, 257, 1<<16 + 1} {
			expectNoDesk(t, slices.Repeat([]api.Stand{s}, members), api.ErrMember)
		}
		for place := range 7 {
			l := free(7)
			l[place] = s
			expectNoDesk(t, l, api.ErrMember)
		}
	}
}

// P15.1: a limit that may not be, in each place of each list, be it Most or Daily, or both.
func TestLimitsThatMayNotBe(t *testing.T) {
	for members := 1; members <= 6; members++ {
		for place := range members {
			for _, wrong := range wrongAmounts {
				for _, other := range []int{0, 1, 100, most, wrong} {
					for _, s := range []api.Stand{of(wrong, other), of(other, wrong)} {
						l := free(members)
						l[place] = s
						expectNoDesk(t, l, api.ErrLimit)
					}
				}
			}
		}
	}
}

// P15.1: each limit from 0 to MaxAmount may be, the one above the other as well as below it.
func TestLimitsThatMayBe(t *testing.T) {
	limits := []int{0, 1, 2, 100, 1 << 31, 1 << 32, 1<<32 + 1, most - 1, most}
	for members := 1; members <= 6; members++ {
		for place := range members {
			for _, mostAtOnce := range limits {
				for _, daily := range limits {
					l := free(members)
					l[place] = of(mostAtOnce, daily)
					d := must(t, l...)
					room := min(mostAtOnce, daily)
					if room < most {
						expectUnchanged(t, d, place, "4", room+1, api.ErrLimit)
					}
					ask(t, d, place, "4", room, api.OK)
					expectHad(t, d, place, "4", room)
				}
			}
		}
	}
}

// P15.1: each member has its own limits.
func TestEachMembersLimits(t *testing.T) {
	for members := 1; members <= 6; members++ {
		l := make([]api.Stand, members)
		for member := range l {
			l[member] = of(100+10*member, 1000-10*member)
		}
		d := must(t, l...)
		for member := range l {
			expectUnchanged(t, d, member, "4", 101+10*member, api.ErrLimit)
			for range 4 {
				ask(t, d, member, "4", 100+10*member, api.OK)
			}
			had := 400 + 40*member
			expectHad(t, d, member, "4", had)
			expectRoom(t, must(t, l...), member, "4", 100+10*member)
			for had < 1000-10*member {
				ask(t, d, member, "4", 10, api.OK)
				had += 10
			}
			expectRoom(t, d, member, "4", 0)
		}
	}
}

// P15.1: nothing was had of a new desk, by whatever card.
func TestNewDesk(t *testing.T) {
	for members := 1; members <= 6; members++ {
		d := must(t, free(members)...)
		for member := -1; member <= 7; member++ {
			for _, pan := range texts() {
				expectHad(t, d, member, pan, 0)
			}
		}
		for member := range members {
			expectRoom(t, d, member, "4000000000000002", most)
		}
	}
}

// P15.2: no member, whatever else is asked; Had is 0 of it, whatever its neighbours' cards had.
func TestNoMember(t *testing.T) {
	for members := 1; members <= 6; members++ {
		d := must(t, slices.Repeat([]api.Stand{of(100, 150)}, members)...)
		for member := range members {
			ask(t, d, member, "4", 70, api.OK)
		}
		for _, none := range noneOf(members) {
			for _, pan := range []string{"4", "5", "", "\xff"} {
				for _, amount := range append([]int{0, 1, 80, 81, 100, 101, most}, wrongAmounts...) {
					expectUnchanged(t, d, none, pan, amount, api.ErrMember)
				}
				expectHad(t, d, none, pan, 0)
			}
		}
		for member := range members {
			expectHad(t, d, member, "4", 70)
			expectRoom(t, d, member, "4", 80)
		}
	}
}

// P15.2: ErrMoney ahead of ErrLimit, of limits of 0 and of MaxAmount, of a card that had something and of one that had not.
func TestAmountsThatAreNone(t *testing.T) {
	for _, s := range []api.Stand{of(0, 0), of(0, most), of(most, 0), of(100, 150), of(most, most)} {
		d := must(t, s)
		d.Ask(0, "4", 100)
		for _, amount := range wrongAmounts {
			expectUnchanged(t, d, 0, "4", amount, api.ErrMoney)
			expectUnchanged(t, d, 0, "5", amount, api.ErrMoney)
		}
	}
}

// P15.2: amounts up to Most, and none above, where Daily lets all of them.
func TestMost(t *testing.T) {
	for _, limit := range []int{0, 1, 2, 99, 100, 1 << 32, most/2 - 1, most - 1, most} {
		for _, amount := range []int{0, 1, 2, 3, 98, 99, 100, 101, 1<<32 - 1, 1 << 32, 1<<32 + 1, limit - 1, limit, limit + 1, most - 1, most} {
			if amount < 0 || amount > most {
				continue
			}
			d := must(t, of(limit, most))
			if amount > limit {
				expectUnchanged(t, d, 0, "4", amount, api.ErrLimit)
				continue
			}
			ask(t, d, 0, "4", amount, api.OK)
			expectHad(t, d, 0, "4", amount)
		}
	}
}

// P15.2: Most is of one amount, not of what the card had.
func TestMostIsOfOneAmount(t *testing.T) {
	d := must(t, of(100, 1000))
	for n := range 10 {
		expectUnchanged(t, d, 0, "4", 101, api.ErrLimit)
		ask(t, d, 0, "4", 100, api.OK)
		expectHad(t, d, 0, "4", 100*(n+1))
	}
	expectUnchanged(t, d, 0, "4", 1, api.ErrLimit)
	expectUnchanged(t, d, 0, "4", 101, api.ErrLimit)
}

// P15.2: what the card has had, and an amount, reach Daily exactly, and do not pass it by 1.
func TestDaily(t *testing.T) {
	for daily := range 13 {
		for first := range daily + 2 {
			for second := range daily + 2 {
				d := must(t, of(most, daily))
				had := 0
				for _, amount := range []int{first, second} {
					if had+amount > daily {
						expectUnchanged(t, d, 0, "4", amount, api.ErrLimit)
						continue
					}
					ask(t, d, 0, "4", amount, api.OK)
					had += amount
				}
				expectHad(t, d, 0, "4", had)
				expectRoom(t, d, 0, "4", daily-had)
			}
		}
	}
}

// P15.2: the greatest limits: a sum that passes MaxAmount passes Daily, however great the amounts.
func TestGreatDaily(t *testing.T) {
	for _, daily := range []int{1 << 31, 1 << 32, 1<<32 + 7, most - 1, most} {
		for _, first := range []int{0, 1, 1<<31 - 1, daily - 1, daily} {
			d := must(t, of(most, daily))
			ask(t, d, 0, "4", first, api.OK)
			expectRoom(t, d, 0, "4", daily-first)
			for _, amount := range []int{most, most - 1, daily} {
				if first+amount > daily {
					expectUnchanged(t, d, 0, "4", amount, api.ErrLimit)
				}
			}
			expectHad(t, d, 0, "4", first)
		}
	}
}

// P15.2: 0 is always an amount: of limits of 0, and of a card that had all that it may; it takes nothing down.
func TestAmountOfNought(t *testing.T) {
	for _, s := range []api.Stand{of(0, 0), of(0, most), of(most, 0)} {
		d := must(t, s)
		for range 3 {
			expectUnchanged(t, d, 0, "4", 0, api.OK)
			expectUnchanged(t, d, 0, "4", 1, api.ErrLimit)
			expectUnchanged(t, d, 0, "4", most, api.ErrLimit)
		}
		expectHad(t, d, 0, "4", 0)
	}
	d := must(t, of(100, 100))
	ask(t, d, 0, "4", 100, api.OK)
	for range 3 {
		expectUnchanged(t, d, 0, "4", 0, api.OK)
		expectUnchanged(t, d, 0, "4", 1, api.ErrLimit)
	}
	expectHad(t, d, 0, "4", 100)
}

// P15.2: what was refused is not had, however often it was asked, and what fits is let behind it.
func TestRefusedIsNotHad(t *testing.T) {
	d := must(t, of(100, 150))
	for range 5 {
		expectUnchanged(t, d, 0, "4", 101, api.ErrLimit)
		expectUnchanged(t, d, 0, "4", -1, api.ErrMoney)
	}
	ask(t, d, 0, "4", 90, api.OK)
	for range 5 {
		expectUnchanged(t, d, 0, "4", 61, api.ErrLimit)
		expectUnchanged(t, d, 0, "4", 100, api.ErrLimit)
		expectUnchanged(t, d, 0, "4", -90, api.ErrMoney)
		expectUnchanged(t, d, 0, "4", most+1, api.ErrMoney)
		expectHad(t, d, 0, "4", 90)
	}
	ask(t, d, 0, "4", 60, api.OK)
	expectHad(t, d, 0, "4", 150)
	expectUnchanged(t, d, 0, "4", 1, api.ErrLimit)
}

// texts are any, all of them different: a card is known by its text alone, be it a number or not.
func texts() []string {
	l := []string{"", " ", "  ", "\x00", "\x00\x00", "\xff", "é", "e\u0301", "\u00e9 ", "４", "٤", "a", "A", "-4", "+4", "4.0", "4e0", "0x4", "4\n", "4\x00", "\x004", "4 ", " 4"}
	for n := range 20 {
		l = append(l, strings.Repeat("4", n+1), strings.Repeat("0", n+1), strings.Repeat("0", n+1)+"4", "4"+strings.Repeat("0", n+1))
	}
	for n := range 20 { // longer ones that are unlike just at their end, or just at their beginning
		l = append(l, strings.Repeat("4", 5000)+strconv.Itoa(n), strconv.Itoa(n)+strings.Repeat("4", 5000))
	}
	for n := range 16 {
		l = append(l, "40000000000000"+strconv.Itoa(10+n), strconv.Itoa(5000+n)+"000000000002")
	}
	slices.Sort(l)
	return slices.Compact(l)
}

// P15.2, P15.4: cards of any texts, at each member: each one has its own amounts.
func TestEachCardOfEachMember(t *testing.T) {
	all := texts()
	for members := 1; members <= 6; members++ {
		d := must(t, free(members)...)
		amount := func(member, i int) int { return 1 + member*1000 + i }
		for round := range 3 {
			for i, pan := range all {
				for member := range members {
					expectHad(t, d, member, pan, round*amount(member, i))
					ask(t, d, member, pan, amount(member, i), api.OK)
				}
			}
		}
		for i, pan := range all {
			for member := range members {
				expectHad(t, d, member, pan, 3*amount(member, i))
			}
		}
	}
}

// P15.4: texts that begin, or end, with a member's number, or with what may stand between.
func TestCardsThatLookLikeMembers(t *testing.T) {
	var all []card
	for member := range 6 {
		for other := range 6 {
			n := strconv.Itoa(other)
			for _, pan := range []string{n, n + n, n + ".", "." + n, n + "4", "4" + n, n + ":4", "4:" + n, "\x00" + n, string(rune(other)), string(rune(other)) + "4", "4" + string(rune(other))} {
				if c := (card{member, pan}); !slices.Contains(all, c) {
					all = append(all, c)
				}
			}
		}
	}
	d := must(t, free(6)...)
	for i, c := range all {
		expectHad(t, d, c.member, c.pan, 0)
		ask(t, d, c.member, c.pan, i+1, api.OK)
	}
	for i, c := range all {
		expectHad(t, d, c.member, c.pan, i+1)
	}
}

// P15.4: what a card, or a member, is asked, whatever comes of it, changes nothing of what another one may have.
func TestOthersDoNotSee(t *testing.T) {
	l := []api.Stand{of(100, 150), of(100, 150), of(0, 0), of(100, 150)}
	for member := range l {
		for _, pan := range []string{"4", "5", ""} {
			d := must(t, l...)
			for _, amount := range []int{100, 0, 60, -1, most + 1, 50, 1} {
				d.Ask(member, pan, amount)
			}
			for other, s := range l {
				for _, card := range []string{"4", "5", "", "44"} {
					if other == member && card == pan {
						continue
					}
					expectHad(t, d, other, card, 0)
					expectRoom(t, d, other, card, s.Most)
				}
			}
		}
	}
}

// P15.2: Had only tells: asked how often ever, of whatever, it changes nothing.
func TestHadOnlyTells(t *testing.T) {
	d := must(t, of(100, 150), of(100, 150))
	ask(t, d, 0, "4", 70, api.OK)
	before := maps.Clone(d.had)
	for range 3 {
		for member := -1; member <= 2; member++ {
			for _, pan := range texts() {
				d.Had(member, pan)
			}
		}
	}
	if !maps.Equal(d.had, before) {
		t.Error(d.had, before)
	}
	expectRoom(t, d, 0, "4", 80)
	expectHad(t, d, 1, "4", 0)
}

// P15.2: behind a Reset no card of any member has had anything, and the limits are as they were, day by day.
func TestReset(t *testing.T) {
	l := []api.Stand{of(100, 150), of(200, 120), of(0, 0), of(most, most)}
	d := must(t, l...)
	d.Reset()
	for day := range 5 {
		for member, s := range l {
			for _, pan := range texts() {
				expectHad(t, d, member, pan, 0)
				room := min(s.Most, s.Daily)
				ask(t, d, member, pan, room, api.OK)
				expectHad(t, d, member, pan, room)
			}
		}
		ask(t, d, 0, "4", 51, api.ErrLimit)
		ask(t, d, 1, "4", 1, api.ErrLimit)
		ask(t, d, 2, "4", 1, api.ErrLimit)
		ask(t, d, 3, "4", 1, api.ErrLimit)
		ask(t, d, 4, "4", 1, api.ErrMember)
		for range day + 1 {
			d.Reset()
		}
	}
}

// P15.3: a clone and its desk side by side: each answers as the other one did, and neither sees what is done to the other.
func TestClone(t *testing.T) {
	for members := 1; members <= 6; members++ {
		last := members - 1
		d := must(t, slices.Repeat([]api.Stand{of(100, 150)}, members)...)
		ask(t, d, last, "4", 100, api.OK)
		x := d.Clone()
		y := x.Clone()
		ask(t, d, last, "4", 50, api.OK)
		ask(t, d, last, "5", 30, api.OK)
		ask(t, x, last, "4", 20, api.OK)
		ask(t, x, last, "6", 40, api.OK)
		for _, c := range []struct {
			d    *Desk
			pan  string
			want int
		}{{d, "4", 150}, {x, "4", 120}, {y, "4", 100}, {d, "5", 30}, {x, "5", 0}, {y, "5", 0}, {d, "6", 0}, {x, "6", 40}, {y, "6", 0}} {
			expectHad(t, c.d, last, c.pan, c.want)
			expectRoom(t, c.d, last, c.pan, min(100, 150-c.want))
		}
		x.Reset()
		expectHad(t, d, last, "4", 150)
		expectHad(t, x, last, "4", 0)
		expectHad(t, y, last, "4", 100)
		d.Reset()
		expectHad(t, y, last, "4", 100)
		ask(t, x, last, "4", 10, api.OK)
		expectHad(t, d, last, "4", 0)
		expectHad(t, x, last, "4", 10)
	}
}

// P15.3: a clone has as many members, with these limits, as new, with cards, and behind a Reset.
func TestClonesLimits(t *testing.T) {
	for members := 1; members <= 6; members++ {
		l := make([]api.Stand, members)
		for member := range l {
			l[member] = of(10+member, 20+member)
		}
		d := must(t, l...)
		for range 2 {
			x := d.Clone()
			for member, s := range l {
				expectUnchanged(t, x, member, "4", s.Most+1, api.ErrLimit)
				expectUnchanged(t, x, member, "4", -1, api.ErrMoney)
				ask(t, x, member, "4", s.Most, api.OK)
				expectRoom(t, x, member, "4", s.Daily-s.Most)
			}
			for _, none := range noneOf(members) {
				expectUnchanged(t, x, none, "4", 1, api.ErrMember)
				expectHad(t, x, none, "4", 0)
			}
			ask(t, d, 0, "5", 7, api.OK)
			d.Reset()
		}
	}
}

// P15.3: of two that were alike each call answers the same, and Reset of the one leaves the other's cards, many of them.
func TestCloneOfManyCards(t *testing.T) {
	const cards = 3000
	d := must(t, of(150, 150), of(150, 150))
	for n := range cards {
		ask(t, d, n%2, strconv.Itoa(n), 1+n%100, api.OK)
	}
	x := d.Clone()
	d.Reset()
	for n := range cards {
		expectHad(t, d, n%2, strconv.Itoa(n), 0)
		expectHad(t, x, n%2, strconv.Itoa(n), 1+n%100)
		expectHad(t, x, 1-n%2, strconv.Itoa(n), 0)
		room := 150 - (1 + n%100)
		ask(t, x, n%2, strconv.Itoa(n), room+1, api.ErrLimit)
		ask(t, x, n%2, strconv.Itoa(n), room, api.OK)
	}
}

// plain is a desk in the chapter's words: all that was let today, in its order.
type plain struct {
	limits []api.Stand
	let    []taken
}

type taken struct {
	card
	amount int
}

func (p *plain) had(member int, pan string) int {
	sum := 0
	for _, x := range p.let {
		if x.card == (card{member, pan}) {
			sum += x.amount
		}
	}
	return sum
}

func (p *plain) ask(member int, pan string, amount int) api.Errno {
	switch {
	case member < 0 || member > len(p.limits)-1:
		return api.ErrMember
	case amount < 0 || amount > 999999999999:
		return api.ErrMoney
	case amount > p.limits[member].Most || p.had(member, pan)+amount > p.limits[member].Daily:
		return api.ErrLimit
	}
	p.let = append(p.let, taken{card{member, pan}, amount})
	return api.OK
}

// anyAmount is mostly about a limit, or small.
func anyAmount(rnd *rand.Rand, s api.Stand) int {
	switch rnd.Intn(8) {
	case 0:
		return s.Most + rnd.Intn(3) - 1
	case 1:
		return s.Daily + rnd.Intn(3) - 1
	case 2:
		return wrongAmounts[rnd.Intn(len(wrongAmounts))]
	case 3:
		return rnd.Intn(most + 1)
	}
	return rnd.Intn(s.Daily/3 + 2)
}

// expectLike holds a desk against a plain one: what each card has had, and that it is not above Daily.
func expectLike(t *testing.T, d *Desk, p *plain, pans []string) {
	t.Helper()
	for member, s := range p.limits {
		for _, pan := range pans {
			had := d.Had(member, pan)
			if want := p.had(member, pan); had != want || had > s.Daily {
				t.Fatalf("Had(%d, %q): %d, want %d; Daily %d", member, pan, had, want, s.Daily)
			}
		}
	}
}

// P15.1 to P15.4: calls by chance, on desks and their clones, held against plain ones.
func TestByChance(t *testing.T) {
	pans := []string{"", "4", "44", "5", "04"}
	told := map[api.Errno]int{}
	for seed := range int64(200) {
		rnd := rand.New(rand.NewSource(seed))
		l := make([]api.Stand, 1+rnd.Intn(6))
		for i := range l {
			l[i] = of(rnd.Intn(most+1)>>rnd.Intn(45), rnd.Intn(most+1)>>rnd.Intn(45))
		}
		desks, plains := []*Desk{must(t, l...)}, []*plain{{limits: l}}
		for range 300 {
			at := rnd.Intn(len(desks))
			d, p := desks[at], plains[at]
			member, pan := rnd.Intn(len(l)), pans[rnd.Intn(len(pans))]
			amount := anyAmount(rnd, l[member])
			if rnd.Intn(20) == 0 {
				member = rnd.Intn(20) - 10
			}
			want := p.ask(member, pan, amount)
			told[want]++
			if e := d.Ask(member, pan, amount); e != want {
				t.Fatalf("seed %d: Ask(%d, %q, %d): %v, want %v", seed, member, pan, amount, e, want)
			}
			if rnd.Intn(80) == 0 {
				d.Reset()
				p.let = nil
			}
			if len(desks) < 4 && rnd.Intn(40) == 0 {
				desks = append(desks, d.Clone())
				plains = append(plains, &plain{l, slices.Clone(p.let)})
			}
			for i, d := range desks {
				expectLike(t, d, plains[i], pans)
			}
		}
	}
	for _, code := range []api.Errno{api.OK, api.ErrMember, api.ErrMoney, api.ErrLimit} {
		if told[code] < 500 {
			t.Error("only", told[code], "calls were to be told", code)
		}
	}
}

// P15.4: whatever a card is asked between two resets, in whatever order, it has at most Daily, and all that was let.
func TestNeverAboveDaily(t *testing.T) {
	for daily := range 9 {
		for mostAtOnce := range 6 {
			for code := range 6 * 6 * 6 * 6 {
				d := must(t, of(mostAtOnce, daily))
				sum := 0
				for rest := code; rest > 0; rest /= 6 {
					if d.Ask(0, "4", rest%6) == api.OK {
						sum += rest % 6
					}
				}
				if had := d.Had(0, "4"); had != sum || had > daily {
					t.Fatalf("Most %d, Daily %d, amounts %d: had %d, let %d", mostAtOnce, daily, code, had, sum)
				}
			}
		}
	}
}

// R6: what is handed in is neither changed, nor kept, nor read behind its length.
func TestWhatIsHandedIn(t *testing.T) {
	want := []api.Stand{of(100, 150), of(10, 15), of(-1, -1), of(most+1, 0)}
	room := slices.Clone(want)
	d := must(t, room[:2]...)
	x := d.Clone()
	ask(t, d, 1, "4", 10, api.OK)
	d.Reset()
	if !slices.Equal(room, want) {
		t.Error("changed", room)
	}
	for i := range room {
		room[i] = of(most, most)
	}
	for _, d := range []*Desk{d, x, d.Clone()} {
		expectUnchanged(t, d, 2, "4", 1, api.ErrMember)
		expectUnchanged(t, d, 0, "4", 101, api.ErrLimit)
		expectUnchanged(t, d, 1, "4", 11, api.ErrLimit)
		ask(t, d, 1, "4", 10, api.OK)
		expectRoom(t, d, 1, "4", 5)
	}
	full := append(free(6), of(-1, -1))
	must(t, full[:6]...)
	expectNoDesk(t, full[:0], api.ErrMember)
	expectNoDesk(t, full[6:], api.ErrLimit)
}

// What is kept is no more than is had: not of cards that were only asked about, let 0, or refused, nor of those of days ahead.
func TestNoRoomForNothing(t *testing.T) {
	d := must(t, of(100, 150))
	for n := range 1000 {
		pan := strconv.Itoa(n)
		d.Had(0, pan)
		ask(t, d, 0, pan, 0, api.OK)
		ask(t, d, 0, pan, 101, api.ErrLimit)
		ask(t, d, 1, pan, 1, api.ErrMember)
		ask(t, d, 0, pan, -1, api.ErrMoney)
	}
	if len(d.had) != 0 {
		t.Error(len(d.had), "cards are kept that had nothing")
	}
	ask(t, d, 0, "4", 1, api.OK)
	ask(t, d, 0, "4", 1, api.OK)
	if len(d.had) != 1 {
		t.Error(len(d.had), "cards are kept of one")
	}
	d.Reset()
	if len(d.had) != 0 {
		t.Error(len(d.had), "cards are kept behind a Reset")
	}
}

// R6: a number that is a piece of a long text keeps none of that text, whether the card had something ahead or not.
func TestLongTextsAreNotKept(t *testing.T) {
	const times, size = 64, 1 << 20
	inUse := func() uint64 {
		var m runtime.MemStats
		runtime.GC()
		runtime.ReadMemStats(&m)
		return m.HeapAlloc
	}
	d := must(t, of(100, 150))
	before := inUse()
	for n := range times {
		pan := strconv.Itoa(4000000000000000 + n/2)
		long := strings.Repeat(" ", size) + pan
		ask(t, d, 0, long[size:], 1, api.OK)
	}
	if after := inUse(); after > before+times*size/8 {
		t.Errorf("%d bytes more are in use", after-before)
	}
	expectHad(t, d, 0, "4000000000000000", 2)
	expectHad(t, d, 0, strconv.Itoa(4000000000000000+times/2-1), 2)
}
