package life

import (
	"math"
	"math/rand"
	"slices"
	"strconv"
	"strings"
	"testing"

	"groat/api"
	"groat/message"
)

// table is the chapter's, with +1 and -1 behind the state that they belong to.
const table = `
State     Ask      Repeat    Yes         No        Late  Reverse     Advice      Stand       Refuse
None      Pending  -         -           -         -     Reversed    Approved+1  Approved+1  None
Pending   -        Pending   Approved+1  Declined  Late  Reversed    -           -           -
Approved  -        Approved  -           -         -     Reversed-1  -           -           -
Declined  -        Declined  -           -         -     Declined    -           -           -
Late      -        Late      -           -         -     Late        -           -           -
Reversed  -        Reversed  -           -         -     Reversed    -           -           -
`

// states and happenings are by their numbers in api; there is no happening 0.
var (
	states     = []string{"None", "Pending", "Approved", "Declined", "Late", "Reversed"}
	happenings = []string{"", "Ask", "Repeat", "Yes", "No", "Late", "Reverse", "Advice", "Stand", "Refuse"}
)

// cell is what Next answers.
type cell struct {
	next, post int
	e          api.Errno
}

// none is the cell of what can't be.
var none = cell{0, 0, 160}

// cellOf reads a cell of the table.
func cellOf(t *testing.T, text string) cell {
	t.Helper()
	if text == "-" {
		return none
	}
	var c cell
	if name, is := strings.CutSuffix(text, "+1"); is {
		text, c.post = name, 1
	} else if name, is := strings.CutSuffix(text, "-1"); is {
		text, c.post = name, -1
	}
	if c.next = slices.Index(states, text); c.next < 0 {
		t.Fatalf("no such state: %q", text)
	}
	return c
}

// cells are the table's, by states and happenings.
func cells(t *testing.T) map[[2]int]cell {
	t.Helper()
	lines := strings.Split(strings.TrimSpace(table), "\n")
	head := strings.Fields(lines[0])
	all := map[[2]int]cell{}
	for _, line := range lines[1:] {
		row := strings.Fields(line)
		state := slices.Index(states, row[0])
		for i, text := range row[1:] {
			all[[2]int{state, slices.Index(happenings, head[i+1])}] = cellOf(t, text)
		}
	}
	if len(all) != 6*9 {
		t.Fatalf("%d cells", len(all))
	}
	return all
}

func expectNext(t *testing.T, state, what int, want cell) {
	t.Helper()
	if next, post, e := Next(state, what); (cell{next, post, e}) != want {
		t.Errorf("Next(%d, %d): %d %d %v, want %v", state, what, next, post, e, want)
	}
}

// of is a message in few words: a number, its text, a number, its text, ..
func of(kind int, fields ...any) api.Msg {
	m := api.Msg{Type: kind}
	for i := 0; i < len(fields); i += 2 {
		m.F = append(m.F, api.Field{No: fields[i].(int), Text: fields[i+1].(string)})
	}
	return m
}

// without is a message without its fields of a number.
func without(m api.Msg, no int) api.Msg {
	isIt := func(f api.Field) bool { return f.No == no }
	return api.Msg{Type: m.Type, F: slices.DeleteFunc(slices.Clone(m.F), isIt)}
}

// plus is a message with a field more, at a place.
func plus(m api.Msg, at, no int, text string) api.Msg {
	return api.Msg{Type: m.Type, F: slices.Insert(slices.Clone(m.F), at, api.Field{No: no, Text: text})}
}

func expectKey(t *testing.T, m api.Msg, want string) {
	t.Helper()
	if k, e := Key(m); k != want || e != api.OK {
		t.Errorf("Key(%v): %q %v, want %q", m, k, e, want)
	}
}

func expectNoKey(t *testing.T, m api.Msg) {
	t.Helper()
	if k, e := Key(m); k != "" || e != api.ErrNone {
		t.Errorf("Key(%v): %q %v, want ErrNone", m, k, e)
	}
}

func expectOriginal(t *testing.T, m api.Msg, want string) {
	t.Helper()
	if k, e := Original(m); k != want || e != api.OK {
		t.Errorf("Original(%v): %q %v, want %q", m, k, e, want)
	}
}

func expectNoOriginal(t *testing.T, m api.Msg) {
	t.Helper()
	if k, e := Original(m); k != "" || e != api.ErrNone {
		t.Errorf("Original(%v): %q %v, want ErrNone", m, k, e)
	}
}

// expectAlike holds both ways round.
func expectAlike(t *testing.T, a, b api.Msg, want bool) {
	t.Helper()
	if one, other := Alike(a, b), Alike(b, a); one != want || other != want {
		t.Errorf("Alike of %v and %v: %v, and the other way round %v, want %v", a, b, one, other, want)
	}
}

// request is one with all of the seven fields, and some more.
func request() api.Msg {
	return of(200, 2, "4000000000000002", 3, "000000", 4, "000000010000", 7, "0101120000", 11, "000001", 32, "11", 38, "STANDI", 49, "978", 70, "001")
}

// seven are the fields that Alike holds against each other.
func seven() []int { return []int{2, 3, 4, 7, 11, 32, 49} }

// The chapter's examples.
func TestExamples(t *testing.T) {
	expectNext(t, api.StNone, api.DoAsk, cell{api.StPending, 0, api.OK})
	expectNext(t, api.StPending, api.DoYes, cell{api.StApproved, 1, api.OK})
	expectNext(t, api.StApproved, api.DoReverse, cell{api.StReversed, -1, api.OK})
	expectNext(t, api.StReversed, api.DoAsk, none)
	expectNext(t, 9, api.DoAsk, none)
	expectNext(t, api.StNone, 0, none)
	expectKey(t, of(0, 7, "0101120000", 11, "000001", 32, "11"), "11.000001.0101120000")
	expectOriginal(t, of(0, 32, "11", 90, "02000000010101120000"), "11.000001.0101120000")
}

// The numbers of states, of what happens, of the fields and of the error, as the document says them.
func TestNumbers(t *testing.T) {
	got := []int{api.StNone, api.StPending, api.StApproved, api.StDeclined, api.StLate, api.StReversed}
	if want := []int{0, 1, 2, 3, 4, 5}; !slices.Equal(got, want) {
		t.Error(got, want)
	}
	got = []int{api.DoAsk, api.DoRepeat, api.DoYes, api.DoNo, api.DoLate, api.DoReverse, api.DoAdvice, api.DoStand, api.DoRefuse}
	if want := []int{1, 2, 3, 4, 5, 6, 7, 8, 9}; !slices.Equal(got, want) {
		t.Error(got, want)
	}
	got = []int{api.FPan, api.FCode, api.FAmount, api.FWhen, api.FStan, api.FAcquirer, api.FCurrency, api.FOriginal, int(api.ErrNone)}
	if want := append(seven(), 90, 160); !slices.Equal(got, want) {
		t.Error(got, want)
	}
}

// P14.1: each cell of the table, and each dash.
func TestTable(t *testing.T) {
	for at, want := range cells(t) {
		expectNext(t, at[0], at[1], want)
	}
}

// strange are numbers that no state has, and none of what happens: below, above, and such as look like one in fewer bits.
func strange() []int {
	l := []int{math.MinInt, math.MinInt + 1, math.MaxInt - 1, math.MaxInt, 100, 1000, -100}
	for n := 1; n <= 10; n++ {
		l = append(l, -n)
		for _, shift := range []int{8, 16, 32, 63} {
			l = append(l, n+1<<shift, n-1<<shift, n-1-1<<shift, n-1+1<<shift)
		}
	}
	return l
}

// P14.1: states that do not exist, below and above, whatever happens.
func TestNoSuchState(t *testing.T) {
	for _, state := range append(strange(), 6, 7, 8, 9, 10) {
		for what := -3; what <= 12; what++ {
			expectNext(t, state, what, none)
		}
	}
}

// P14.1: what does not happen, below and above, in each state, and in none.
func TestNoSuchHappening(t *testing.T) {
	for _, what := range append(strange(), 0, 10, 11, 12) {
		for state := -3; state <= 9; state++ {
			expectNext(t, state, what, none)
		}
	}
}

// P14.1: what is answered hangs on the two numbers alone: asked once more, in another order, it is the same.
func TestNextKeepsNothing(t *testing.T) {
	all := cells(t)
	r := rand.New(rand.NewSource(1))
	for range 20000 {
		state, what := r.Intn(10)-2, r.Intn(14)-2
		want, is := all[[2]int{state, what}]
		if !is {
			want = none
		}
		expectNext(t, state, what, want)
	}
}

// P14.2: the key of a message of any type, whatever else it has, and in whatever order its fields stand.
func TestKeyOfMessages(t *testing.T) {
	want := "11.000001.0101120000"
	for _, kind := range []int{0, 100, 101, 110, 200, 230, 420, 430, 500, 810, -1, 9999, math.MaxInt, math.MinInt} {
		m := request()
		m.Type = kind
		expectKey(t, m, want)
	}
	expectKey(t, of(230, 7, "0101120000", 11, "000001", 32, "11", 39, "00"), want)
	a, b, c := api.Field{No: 7, Text: "0101120000"}, api.Field{No: 11, Text: "000001"}, api.Field{No: 32, Text: "11"}
	for _, l := range [][]api.Field{{a, b, c}, {a, c, b}, {b, a, c}, {b, c, a}, {c, a, b}, {c, b, a}} {
		expectKey(t, api.Msg{F: l}, want)
	}
}

// P14.2: each of the three fields missing in turn, two of them, all of them.
func TestKeyOfTooFewFields(t *testing.T) {
	three := []int{7, 11, 32}
	for missing := 1; missing < 8; missing++ {
		bare := of(200, 7, "0101120000", 11, "000001", 32, "11")
		more := plus(request(), len(request().F), 90, "02000000010101120000")
		for i, no := range three {
			if missing>>i&1 == 1 {
				bare, more = without(bare, no), without(more, no)
			}
		}
		expectNoKey(t, bare)
		expectNoKey(t, more)
	}
	expectNoKey(t, api.Msg{})
	expectNoKey(t, api.Msg{Type: 200, F: []api.Field{}})
	// Numbers that look like the three are not they.
	for _, no := range []int{0, -7, -11, -32, 6, 8, 10, 12, 31, 33, 7 + 1<<32, 11 + 1<<32, 32 + 1<<32, 7 + 1<<8} {
		for i, f := range of(200, 7, "0101120000", 11, "000001", 32, "11").F {
			m := of(200, 7, "0101120000", 11, "000001", 32, "11")
			m.F[i] = api.Field{No: no, Text: f.Text}
			expectNoKey(t, m)
		}
	}
}

// P14.2: the texts are taken as they are: empty ones are there, points and any bytes do not matter.
func TestKeyOfAnyTexts(t *testing.T) {
	long := strings.Repeat("9", 100000)
	texts := []string{"", ".", "..", "0", "a", " 1 ", "\x00", "\xff\xfe", "ä€", long}
	for _, acquirer := range texts {
		for _, stan := range texts {
			for _, when := range texts {
				k, e := Key(of(100, 7, when, 11, stan, 32, acquirer))
				if want := strings.Join([]string{acquirer, stan, when}, "."); k != want || e != api.OK {
					t.Fatalf("Key of %.20q, %.20q, %.20q: %.60q %v", acquirer, stan, when, k, e)
				}
			}
		}
	}
}

// P14.2: of several fields of a number the first one is asked, as message.Get does.
func TestKeyAsksTheFirst(t *testing.T) {
	m := of(200, 7, "0101120000", 11, "000001", 32, "11", 7, "x", 11, "y", 32, "z")
	expectKey(t, m, "11.000001.0101120000")
	slices.Reverse(m.F)
	expectKey(t, m, "z.y.x")
}

// P14.2: a field 90 of 20 bytes, and no other.
func TestLengthsOfOriginals(t *testing.T) {
	const digits = "0200000001010112000012345"
	for n := range len(digits) + 1 {
		m := of(420, 7, "0101120001", 11, "000002", 32, "11", 90, digits[:n])
		if n == 20 {
			expectOriginal(t, m, "11.000001.0101120000")
		} else {
			expectNoOriginal(t, m)
		}
	}
	for _, n := range []int{40, 256, 276, 65556} {
		expectNoOriginal(t, of(420, 32, "11", 90, strings.Repeat("0", n)))
	}
}

// P14.2: no field 90, or no field 32.
func TestOriginalOfTooFewFields(t *testing.T) {
	m := of(420, 7, "0101120001", 11, "000002", 32, "11", 90, "02000000010101120000")
	expectOriginal(t, m, "11.000001.0101120000")
	expectNoOriginal(t, without(m, 90))
	expectNoOriginal(t, without(m, 32))
	expectNoOriginal(t, without(without(m, 32), 90))
	expectNoOriginal(t, request())
	expectNoOriginal(t, api.Msg{})
	for _, no := range []int{0, 89, 91, -90, 90 + 1<<32, 90 + 1<<8} {
		expectNoOriginal(t, of(420, 32, "11", no, "02000000010101120000"))
	}
	// What stands in 7 and 11 is not asked: they need not be there.
	expectOriginal(t, without(without(m, 7), 11), "11.000001.0101120000")
}

// P14.2: which bytes of the field 90 are taken: all but the first four, each in its place.
func TestPlacesInOriginals(t *testing.T) {
	expectOriginal(t, of(420, 32, "987", 90, "abcdefghijklmnopqrst"), "987.efghij.klmnopqrst")
	base := []byte("abcdefghijklmnopqrst")
	for at := range base {
		for c := range 256 {
			b := slices.Clone(base)
			b[at] = byte(c)
			expectOriginal(t, of(421, 32, "1", 90, string(b)), "1."+string(b[4:10])+"."+string(b[10:20]))
		}
	}
}

// P14.2: bytes are counted, not characters.
func TestBytesOfOriginals(t *testing.T) {
	expectNoOriginal(t, of(420, 32, "11", 90, strings.Repeat("ä", 20)))
	expectOriginal(t, of(420, 32, "11", 90, strings.Repeat("ä", 10)), "11."+strings.Repeat("ä", 3)+"."+strings.Repeat("ä", 5))
	expectOriginal(t, of(420, 32, "11", 90, strings.Repeat("€", 6)+"12"), "11."+strings.Repeat("€", 6)[4:10]+"."+strings.Repeat("€", 6)[10:]+"12")
	expectOriginal(t, of(420, 32, "11", 90, strings.Repeat("\xff", 20)), "11."+strings.Repeat("\xff", 6)+"."+strings.Repeat("\xff", 10))
}

// P14.2: the text of the field 32 is taken as it is; of several fields the first one; whatever the type.
func TestOriginalOfAnyTexts(t *testing.T) {
	for _, acquirer := range []string{"", ".", "0", "11.", "\x00", "ä", strings.Repeat("1", 100000)} {
		k, e := Original(of(420, 32, acquirer, 90, "02000000010101120000"))
		if k != acquirer+".000001.0101120000" || e != api.OK {
			t.Errorf("Original of %.20q: %.60q %v", acquirer, k, e)
		}
	}
	m := of(0, 90, "02000000010101120000", 32, "11", 90, "short", 32, "22")
	for _, kind := range []int{0, 200, 420, 421, 430, -5, math.MaxInt} {
		m.Type = kind
		expectOriginal(t, m, "11.000001.0101120000")
	}
	slices.Reverse(m.F)
	expectNoOriginal(t, m)
}

// P14.2: a reversal, as it is written of a request, is about the request's key.
func TestOriginalIsTheKey(t *testing.T) {
	r := rand.New(rand.NewSource(2))
	for range 2000 {
		code, stan, when := digits(r, 1+r.Intn(11)), digits(r, 6), digits(r, 10)
		kind := []int{100, 200, 220}[r.Intn(3)]
		k, e := Key(of(kind, 7, when, 11, stan, 32, code))
		if e != api.OK {
			t.Fatal(e)
		}
		expectOriginal(t, of(420, 7, digits(r, 10), 11, digits(r, 6), 32, code, 90, "0"+strconv.Itoa(kind)+stan+when), k)
	}
}

// digits are so many, by chance.
func digits(r *rand.Rand, n int) string {
	b := make([]byte, n)
	for i := range b {
		b[i] = byte('0' + r.Intn(10))
	}
	return string(b)
}

// P14.3: types that differ in the last digit alone are the same, and no others.
func TestTypesAlike(t *testing.T) {
	ofType := func(kind int) api.Msg {
		m := request()
		m.Type = kind
		return m
	}
	there := []int{100, 101, 110, 200, 201, 210, 220, 221, 230, 420, 421, 430, 500, 510, 800, 810}
	for _, a := range there {
		for _, b := range there {
			if got, want := Alike(ofType(a), ofType(b)), a-a%10 == b-b%10; got != want {
				t.Errorf("Alike of types %d and %d: %v", a, b, got)
			}
		}
	}
	for tens := 0; tens < 100; tens++ {
		for a := range 10 {
			expectAlike(t, ofType(10*tens+a), ofType(10*tens+9-a), true)
			expectAlike(t, ofType(10*tens+a), ofType(10*tens+10), false)
			expectAlike(t, ofType(10*tens+a), ofType(10*tens+10+a), false)
			expectAlike(t, ofType(10*tens+a), ofType(10*tens+a+100), false)
		}
	}
}

// P14.3: Type / 10 is rounded to 0: nineteen types about it are the same.
func TestTypesAlikeAboutNought(t *testing.T) {
	for a := -40; a <= 40; a++ {
		for b := -40; b <= 40; b++ {
			want := int(math.Trunc(float64(a)/10)) == int(math.Trunc(float64(b)/10))
			if got := Alike(api.Msg{Type: a}, api.Msg{Type: b}); got != want {
				t.Errorf("Alike of types %d and %d: %v", a, b, got)
			}
		}
	}
	pairs := []struct {
		a, b int
		want bool
	}{
		{math.MaxInt, math.MaxInt - 7, true},
		{math.MaxInt, math.MaxInt - 8, false},
		{math.MinInt, math.MinInt + 8, true},
		{math.MinInt, math.MinInt + 9, false},
		{math.MinInt, math.MaxInt, false},
		{200, 200 + 1<<32, false},
		{200, 200 + 10<<32, false},
		{200, -200, false},
		{201, -201, false},
		{9, -9, true},
		{10, -9, false},
		{-10, 9, false},
		{-10, -19, true},
		{-10, -20, false},
	}
	for _, p := range pairs {
		expectAlike(t, api.Msg{Type: p.a}, api.Msg{Type: p.b}, p.want)
	}
}

// P14.3: each of the seven fields with another text, in one of the two alone, in neither; and the empty text, which is there.
func TestSevenFields(t *testing.T) {
	for _, kind := range []int{200, 201} {
		for _, no := range seven() {
			m, other := request(), request()
			other.Type = kind
			text, _ := message.Get(m, no)
			for _, wrong := range []string{"", "x", text + "0", text[1:], "0" + text, text[:len(text)-1], text + " ", strings.Repeat("9", len(text)), text[:len(text)-1] + "7"} {
				expectAlike(t, m, message.Set(other, no, wrong), false)
			}
			expectAlike(t, m, message.Set(other, no, text), true)
			expectAlike(t, m, without(other, no), false)
			expectAlike(t, without(m, no), without(other, no), true)
			expectAlike(t, message.Set(m, no, ""), without(other, no), false)
			expectAlike(t, message.Set(m, no, ""), message.Set(other, no, ""), true)
		}
	}
}

// P14.3: all sets of the seven fields are alike only if they are one.
func TestSetsOfSevenFields(t *testing.T) {
	few := func(set int) api.Msg {
		m := request()
		for i, no := range seven() {
			if set>>i&1 == 0 {
				m = without(m, no)
			}
		}
		return m
	}
	for a := range 128 {
		for b := range 128 {
			if got := Alike(few(a), few(b)); got != (a == b) {
				t.Fatalf("Alike of the sets %b and %b: %v", a, b, got)
			}
		}
	}
}

// P14.3: no other field is asked: with another text, or in one of the two alone.
func TestOtherFields(t *testing.T) {
	for no := -2; no <= 130; no++ {
		if slices.Contains(seven(), no) {
			continue
		}
		m := without(request(), no)
		expectAlike(t, m, message.Set(m, no, "000000"), true)
		expectAlike(t, message.Set(m, no, "000001"), message.Set(m, no, "000000"), true)
	}
	for _, no := range seven() {
		expectAlike(t, request(), message.Set(request(), no+1<<32, "x"), true)
		expectAlike(t, request(), message.Set(request(), -no, "x"), true)
	}
	expectAlike(t, api.Msg{}, api.Msg{}, true)
	expectAlike(t, api.Msg{Type: 200}, api.Msg{Type: 201, F: []api.Field{{No: 39, Text: "00"}}}, true)
	expectAlike(t, api.Msg{Type: 200}, api.Msg{Type: 200, F: []api.Field{}}, true)
}

// P14.3: in whatever order the fields stand; the first one of a number is asked; two that changed texts are not alike.
func TestOrderOfFields(t *testing.T) {
	m, other := request(), request()
	slices.Reverse(other.F)
	expectAlike(t, m, other, true)
	for _, no := range seven() {
		expectAlike(t, m, plus(m, len(m.F), no, "another"), true)
		expectAlike(t, m, plus(m, 0, no, "another"), false)
		expectAlike(t, plus(m, 0, no, "another"), plus(without(other, no), 3, no, "another"), true)
	}
	changed := message.Set(message.Set(m, 3, "000001"), 11, "000000")
	expectAlike(t, m, changed, false)
}

// P14.2, P14.3: messages by chance, with few numbers and texts, held against the chapter's words.
func TestMessagesByChance(t *testing.T) {
	r := rand.New(rand.NewSource(3))
	some := func(count int) api.Msg {
		m := api.Msg{Type: 200 + r.Intn(14)}
		for range count {
			no := append(seven(), 38, 90)[r.Intn(9)]
			m.F = append(m.F, api.Field{No: no, Text: []string{"", "1", "02000000010101120000"}[r.Intn(3)]})
		}
		return m
	}
	alike := 0
	for range 60000 {
		a := some(r.Intn(12))
		b := some(r.Intn(12))
		if r.Intn(2) == 0 {
			b = api.Msg{Type: 200 + r.Intn(14), F: slices.Clone(a.F)}
			if len(b.F) > 0 {
				b.F[r.Intn(len(b.F))].Text = "1"
			}
		}
		want := a.Type-a.Type%10 == b.Type-b.Type%10
		for _, no := range seven() {
			want = want && first(a, no) == first(b, no)
		}
		expectAlike(t, a, b, want)
		if want {
			alike++
		}
		expectPlainKeys(t, a)
	}
	if alike < 1000 {
		t.Errorf("only %d pairs are alike", alike)
	}
}

// first is the first field of a number, or none.
func first(m api.Msg, no int) api.Field {
	for _, f := range m.F {
		if f.No == no {
			return f
		}
	}
	return api.Field{}
}

func expectPlainKeys(t *testing.T, m api.Msg) {
	t.Helper()
	acquirer, stan, when, about := first(m, 32), first(m, 11), first(m, 7), first(m, 90)
	if acquirer.No == 0 || stan.No == 0 || when.No == 0 {
		expectNoKey(t, m)
	} else {
		expectKey(t, m, acquirer.Text+"."+stan.Text+"."+when.Text)
	}
	if acquirer.No == 0 || len(about.Text) != 20 {
		expectNoOriginal(t, m)
	} else {
		expectOriginal(t, m, acquirer.Text+"."+about.Text[4:10]+"."+about.Text[10:])
	}
}

// R6: what is handed in is not changed, and what it has behind its length is not read.
func TestWhoseMemory(t *testing.T) {
	whole := plus(request(), len(request().F), 90, "02000000010101120000")
	before := slices.Clone(whole.F)
	for n := range len(whole.F) + 1 {
		part := api.Msg{Type: 200, F: whole.F[:n]}
		bare := api.Msg{Type: 200, F: slices.Clone(whole.F[:n:n])}
		expectPlainKeys(t, part)
		expectAlike(t, part, bare, true)
		if n < len(whole.F) && slices.Contains(seven(), whole.F[n].No) {
			expectAlike(t, part, whole, false)
		}
	}
	if !slices.Equal(whole.F, before) {
		t.Error(whole.F, before)
	}
	k, _ := Key(whole)
	o, _ := Original(whole)
	for i := range whole.F {
		whole.F[i].Text = "another"
	}
	if k != "11.000001.0101120000" || o != k {
		t.Error(k, o)
	}
}

// past is what was posted of a transaction, in its state.
type past struct{ state, approvals, reversals int }

// happen is what becomes of it: what has no cell changes nothing.
func (p past) happen(what int) past {
	next, post, e := Next(p.state, what)
	if e != api.OK {
		return p
	}
	p.state = next
	switch post {
	case 1:
		p.approvals++
	case -1:
		p.reversals++
	}
	return p
}

// expectOnce holds what P14.4 says of a past, and of the step that led to it.
func expectOnce(t *testing.T, before, after past) {
	t.Helper()
	if after.approvals > 1 || after.reversals > after.approvals {
		t.Fatalf("%v, and then %v", before, after)
	}
	posted := before.approvals != after.approvals || before.reversals != after.reversals
	if posted && (before.state == api.StReversed || before.state == api.StLate || before.state == api.StDeclined) {
		t.Fatalf("posted behind the end: %v, and then %v", before, after)
	}
	if posted && before.reversals != after.reversals && before.approvals != 1 {
		t.Fatalf("undone what was not posted: %v, and then %v", before, after)
	}
}

// P14.4: whatever happens, in all orders of up to six.
func TestOnceInAllOrders(t *testing.T) {
	var walk func(p past, left int)
	walk = func(p past, left int) {
		if left == 0 {
			return
		}
		for what := range 11 {
			after := p.happen(what)
			expectOnce(t, p, after)
			walk(after, left-1)
		}
	}
	walk(past{}, 6)
}

// P14.4: and in orders of any length: of all pasts that can be reached none has more, and just these there are.
func TestOnceForEver(t *testing.T) {
	seen := map[past]bool{{}: true}
	work := []past{{}}
	for len(work) > 0 {
		p := work[0]
		work = work[1:]
		for what := range 11 {
			after := p.happen(what)
			expectOnce(t, p, after)
			if !seen[after] {
				seen[after] = true
				work = append(work, after)
			}
		}
	}
	want := []past{{0, 0, 0}, {1, 0, 0}, {2, 1, 0}, {3, 0, 0}, {4, 0, 0}, {5, 0, 0}, {5, 1, 1}}
	if len(seen) != len(want) {
		t.Errorf("%v, want %v", seen, want)
	}
	for _, p := range want {
		if !seen[p] {
			t.Errorf("%v is not reached", p)
		}
	}
}

// P14.4: a long life by chance, once reversed, late or declined, stays what it is.
func TestLongLives(t *testing.T) {
	r := rand.New(rand.NewSource(4))
	for range 300 {
		var p past
		for range 100 {
			after := p.happen(r.Intn(14) - 2)
			expectOnce(t, p, after)
			if (p.state == api.StReversed || p.state == api.StLate || p.state == api.StDeclined) && after != p {
				t.Fatalf("%v, and then %v", p, after)
			}
			p = after
		}
	}
}
