package session

import (
	"bytes"
	"crypto/hmac"
	"crypto/sha256"
	"encoding/hex"
	"math"
	"math/rand"
	"slices"
	"strings"
	"testing"

	"groat/api"
	"groat/message"
)

func member(dialect int, key string) api.Member {
	return api.Member{Code: "11", Dialect: dialect, Key: []byte(key)}
}

// of is a message in few words.
func of(kind int, l ...api.Field) api.Msg { return api.Msg{Type: kind, F: l} }

func mac64(text string) api.Field { return api.Field{No: 64, Text: text} }

// sample is a message whose bytes in each dialect are known: see sampleBytes.
func sample() api.Msg {
	return of(800, api.Field{No: 7, Text: "0101000000"}, api.Field{No: 11, Text: "000001"}, api.Field{No: 70, Text: "001"})
}

// sampleBytes are the sample's bytes, by hand, by dialects from 1 on.
func sampleBytes(dialect int) []byte {
	ebcdic := func(digits string) string {
		for n := byte('0'); n <= '9'; n++ {
			digits = strings.ReplaceAll(digits, string(rune(n)), string([]byte{0xf0 + n - '0'}))
		}
		return digits
	}
	bits := "\x82\x20\x00\x00\x00\x00\x00\x00\x04\x00\x00\x00\x00\x00\x00\x00"
	return []byte([]string{
		"",
		"0800" + "82200000000000000400000000000000" + "0101000000" + "000001" + "001",
		"\x18\x00" + bits + "\x01\x01\x00\x00\x00" + "\x00\x00\x01" + "\x00\x01",
		ebcdic("9800") + bits + ebcdic("0101000000000001001"),
	}[dialect])
}

// plainMac is the mac of bytes in the chapter's words, by another's HMAC.
func plainMac(key, b []byte) string {
	h := hmac.New(sha256.New, key)
	h.Write(b)
	return hex.EncodeToString(h.Sum(nil)[:8])
}

// plainSeal is Seal in the chapter's words.
func plainSeal(m api.Member, x api.Msg) (api.Msg, api.Errno) {
	var l []api.Field
	for _, f := range x.F {
		if f.No != 64 {
			l = append(l, f)
		}
	}
	b, e := message.Encode(m.Dialect, of(x.Type, l...))
	if e != api.OK {
		return api.Msg{}, e
	}
	at := 0
	for at < len(l) && l[at].No < 64 {
		at++
	}
	return of(x.Type, slices.Insert(l, at, mac64(plainMac(m.Key, b)))...), api.OK
}

func plainCheck(m api.Member, x api.Msg) api.Errno {
	sealed, e := plainSeal(m, x)
	if e != api.OK {
		return e
	}
	for _, f := range x.F {
		if f.No == 64 {
			if slices.Contains(sealed.F, f) {
				return api.OK
			}
			return api.ErrMac
		}
	}
	return api.ErrMac
}

func same(a, b api.Msg) bool { return a.Type == b.Type && slices.Equal(a.F, b.F) }

func sealed(t *testing.T, m api.Member, x api.Msg) api.Msg {
	t.Helper()
	s, e := Seal(m, x)
	if e != api.OK {
		t.Fatalf("Seal(%v): %v", few(x), e)
	}
	return s
}

// few is a message with as many of its fields as one can read.
func few(x api.Msg) api.Msg { return of(x.Type, x.F[:min(len(x.F), 30)]...) }

func expectSeal(t *testing.T, m api.Member, x, want api.Msg) {
	t.Helper()
	if s, e := Seal(m, x); e != api.OK || !same(s, want) {
		t.Errorf("Seal of %v: %v %v, want %v", few(x), few(s), e, few(want))
	}
}

func expectCheck(t *testing.T, m api.Member, x api.Msg, want api.Errno) {
	t.Helper()
	if e := Check(m, x); e != want {
		t.Errorf("Check of %v (dialect %d, key %x): %v, want %v", few(x), m.Dialect, m.Key, e, want)
	}
}

// expectRefused holds that both calls answer just that, with nothing beside it.
func expectRefused(t *testing.T, m api.Member, x api.Msg, want api.Errno) {
	t.Helper()
	s, e := Seal(m, x)
	if e != want || s.Type != 0 || len(s.F) != 0 {
		t.Errorf("Seal of %v (dialect %d): %v %v, want %v", few(x), m.Dialect, few(s), e, want)
	}
	expectCheck(t, m, x, want)
}

// with is a message with the field that stands at a place in it set to another one.
func with(x api.Msg, at int, f api.Field) api.Msg {
	l := slices.Clone(x.F)
	l[at] = f
	return of(x.Type, l...)
}

// The chapter's examples of macs.
func TestExamplesOfMacs(t *testing.T) {
	m := member(1, "k")
	x := of(800, api.Field{No: 11, Text: "000001"})
	s := sealed(t, m, x)
	if len(s.F) != 2 || s.F[0] != x.F[0] || s.F[1].No != 64 {
		t.Fatal(s)
	}
	expectCheck(t, m, s, api.OK)
	expectCheck(t, m, with(s, 0, api.Field{No: 11, Text: "000002"}), api.ErrMac)
}

// The chapter's examples of boards.
func TestExamplesOfBoards(t *testing.T) {
	b := must(t, 2)
	sign(t, b, 0, true, api.OK)
	expectReady(t, b, 0, true)
	block(t, b, 0, true, api.OK)
	expectReady(t, b, 0, false)
	b.Reset()
	expectLook(t, b, 0, false, true)
	sign(t, b, 2, true, api.ErrMember)
	expectReady(t, b, -1, false)
}

// The errors' and limits' numbers, as the chapter says them.
func TestNumbers(t *testing.T) {
	got := []api.Errno{api.ErrMember, api.ErrMac, api.FMac, api.MaxMembers}
	if want := []api.Errno{130, 131, 64, 6}; !slices.Equal(got, want) {
		t.Error(got, want)
	}
}

// P13.1: the mac is that of the message's bytes in the member's dialect, by its key, the first eight bytes as small digits.
func TestMacsOfKnownBytes(t *testing.T) {
	for dialect := 1; dialect <= 3; dialect++ {
		for _, key := range []string{"", "k", "key", "\x00", "\xff\x80", strings.Repeat("a", 64), strings.Repeat("a", 65), strings.Repeat("b", 5000)} {
			m := member(dialect, key)
			want := sample()
			want.F = slices.Insert(want.F, 2, mac64(plainMac([]byte(key), sampleBytes(dialect))))
			expectSeal(t, m, sample(), want)
			expectCheck(t, m, want, api.OK)
			expectCheck(t, m, sample(), api.ErrMac)
		}
	}
	// Of the key `key`, by hand with another's program.
	s := sealed(t, member(1, "key"), sample())
	if text, _ := message.Get(s, 64); text != "479a0b65bfb80fdb" {
		t.Error(text)
	}
}

// P13.1: all digits come up, each in each place.
func TestDigitsOfMacs(t *testing.T) {
	var seen [16]map[byte]int
	for i := range seen {
		seen[i] = map[byte]int{}
	}
	for n := range 400 {
		m := member(1, string([]byte{byte(n >> 8), byte(n)}))
		text, is := message.Get(sealed(t, m, sample()), 64)
		if want := plainMac(m.Key, sampleBytes(1)); !is || text != want {
			t.Fatalf("the mac %q, want %q", text, want)
		}
		for i := range text {
			seen[i][text[i]]++
		}
	}
	for i := range seen {
		for _, c := range []byte("0123456789abcdef") {
			if seen[i][c] == 0 || len(seen[i]) != 16 {
				t.Errorf("place %d: %d times %c, of %d", i, seen[i][c], c, len(seen[i]))
			}
		}
	}
}

// P13.1: the mac stands as the field 64, ahead of the first greater one, whatever there is.
func TestWhereMacsStand(t *testing.T) {
	lists := [][]int{nil, {2}, {70}, {97}, {11, 70}, {2, 49}, {70, 97}, {2, 3, 4, 7, 11, 32, 38, 39, 49, 70, 74, 76, 86, 88, 90, 97}}
	for _, l := range lists {
		x := of(800)
		for _, no := range l {
			x.F = append(x.F, api.Field{No: no, Text: textOf(no, 0)})
		}
		for dialect := 1; dialect <= 3; dialect++ {
			m := member(dialect, "k")
			want, e := plainSeal(m, x)
			if e != api.OK || len(want.F) != len(l)+1 {
				t.Fatal(l, e)
			}
			expectSeal(t, m, x, want)
			expectCheck(t, m, want, api.OK)
			if !slices.IsSortedFunc(sealed(t, m, x).F, func(a, b api.Field) int { return a.No - b.No }) {
				t.Errorf("fields out of order: %v", want)
			}
		}
	}
}

// P13.1: fields 64 that stand there, wherever, whatever they say and however many, are not asked: the mac is the same, and they give way to it.
func TestMacsThatStandThere(t *testing.T) {
	for dialect := 1; dialect <= 3; dialect++ {
		m := member(dialect, "k")
		want := sealed(t, m, sample())
		others := sealed(t, member(dialect, "l"), sample())
		own, _ := message.Get(want, 64)
		theirs, _ := message.Get(others, 64)
		expectSeal(t, m, want, want)
		expectSeal(t, m, others, want)
		for _, text := range []string{own, theirs, "", "x", "0123", strings.ToUpper(own), strings.Repeat("0", 16), strings.Repeat("1", 1000)} {
			for at := range len(sample().F) + 1 {
				x := sample()
				x.F = slices.Insert(x.F, at, mac64(text))
				expectSeal(t, m, x, want)
				x.F = slices.Insert(x.F, 0, mac64("one more"))
				x.F = append(x.F, mac64(own), mac64(text))
				expectSeal(t, m, x, want)
			}
		}
	}
}

// P13.1: of more than one field 64 Check asks the first one; where it stands among the others is not asked.
func TestCheckAsksTheFirstMac(t *testing.T) {
	m := member(2, "k")
	own, _ := message.Get(sealed(t, m, sample()), 64)
	for at := range len(sample().F) + 1 {
		x := sample()
		x.F = slices.Insert(x.F, at, mac64(own))
		expectCheck(t, m, x, api.OK)
		for behind := at + 1; behind <= len(x.F); behind++ {
			more := slices.Insert(slices.Clone(x.F), behind, mac64("0000000000000000"))
			expectCheck(t, m, of(800, more...), api.OK)
		}
		for ahead := 0; ahead <= at; ahead++ {
			more := slices.Insert(slices.Clone(x.F), ahead, mac64("0000000000000000"))
			expectCheck(t, m, of(800, more...), api.ErrMac)
			more[ahead].Text = own
			expectCheck(t, m, of(800, more...), api.OK)
		}
	}
}

// P13.1: as many fields 64 as one likes are no fields too many.
func TestManyMacs(t *testing.T) {
	m := member(3, "k")
	want := sealed(t, m, sample())
	for _, n := range []int{21, 22, 23, 24, 25, 1000, 300000} {
		x := sample()
		for range n {
			x.F = append(x.F, want.F[2])
		}
		expectSeal(t, m, x, want)
		expectCheck(t, m, x, api.OK)
		x.F[3].Text = "0000000000000000"
		expectSeal(t, m, x, want)
		expectCheck(t, m, x, api.ErrMac)
	}
}

// P13.1: Check takes no other text than the mac's own digits.
func TestTextsThatAreNoMac(t *testing.T) {
	m := member(1, "k")
	s := sealed(t, m, sample())
	own := s.F[2].Text
	if strings.ToUpper(own) == own {
		t.Fatal("a mac without letters: take another key")
	}
	texts := []string{"", own[:15], own[1:], own + "0", own + own, " " + own, own + " ", strings.ToUpper(own), own[:8], strings.Repeat("0", 16), plainMac([]byte("k"), nil)}
	for at := range own {
		for c := range 256 {
			if b := []byte(own); b[at] != byte(c) {
				b[at] = byte(c)
				texts = append(texts, string(b))
			}
		}
	}
	for _, text := range texts {
		expectCheck(t, m, with(s, 2, mac64(text)), api.ErrMac)
	}
	expectCheck(t, m, s, api.OK)
}

// P13.1: a mac is that of all bytes: the next eight bytes of the hash are not it, nor is that of the message with a mac.
func TestOtherMacs(t *testing.T) {
	m := member(1, "k")
	h := hmac.New(sha256.New, m.Key)
	h.Write(sampleBytes(1))
	all := hex.EncodeToString(h.Sum(nil))
	s := sealed(t, m, sample())
	expectCheck(t, m, with(s, 2, mac64(all[:16])), api.OK)
	for at := 1; at+16 <= len(all); at++ {
		expectCheck(t, m, with(s, 2, mac64(all[at:at+16])), api.ErrMac)
	}
	b, _ := message.Encode(1, s)
	expectCheck(t, m, with(s, 2, mac64(plainMac(m.Key, b))), api.ErrMac)
}

// P13.1: what Encode refuses is refused so, whether there is a field 64 or not.
func TestMessagesThatAreRefused(t *testing.T) {
	stan := api.Field{No: 11, Text: "000001"}
	long := of(800)
	for range 25 {
		long.F = append(long.F, stan)
	}
	big := of(200, api.Field{No: 4, Text: "010000000000"})
	cases := []struct {
		dialect int
		x       api.Msg
		want    api.Errno
	}{
		{0, of(800), api.ErrMsgDialect},
		{4, of(800), api.ErrMsgDialect},
		{-1, of(800), api.ErrMsgDialect},
		{math.MaxInt, of(800), api.ErrMsgDialect},
		{math.MinInt, of(800), api.ErrMsgDialect},
		{4, of(801), api.ErrMsgDialect},
		{1, of(801), api.ErrMsgType},
		{2, of(0), api.ErrMsgType},
		{3, of(-800), api.ErrMsgType},
		{1, of(1, long.F...), api.ErrMsgType},
		{2, long, api.ErrLong},
		{2, of(800, long.F[:24]...), api.ErrMsgField},
		{1, of(800, api.Field{No: 5, Text: "1"}), api.ErrMsgField},
		{1, of(800, api.Field{No: 65, Text: "1"}), api.ErrMsgField},
		{1, of(800, api.Field{No: 63, Text: "1"}), api.ErrMsgField},
		{1, of(800, api.Field{}), api.ErrMsgField},
		{1, of(800, api.Field{No: 70, Text: "001"}, stan), api.ErrMsgField},
		{1, of(800, stan, stan), api.ErrMsgField},
		{1, of(800, api.Field{No: 11, Text: "00001"}), api.ErrFieldText},
		{1, of(800, api.Field{No: 11, Text: "00000a"}), api.ErrFieldText},
		{3, big, api.ErrFieldText},
		{3, of(200, append(slices.Clone(big.F), stan, stan)...), api.ErrMsgField},
	}
	for _, c := range cases {
		m := member(c.dialect, "k")
		expectRefused(t, m, c.x, c.want)
		for at := range len(c.x.F) + 1 {
			x := of(c.x.Type, slices.Insert(slices.Clone(c.x.F), at, mac64("0000000000000000"))...)
			expectRefused(t, m, x, c.want)
			expectRefused(t, m, of(x.Type, append(x.F, mac64("no mac"))...), c.want)
		}
	}
	for dialect := 1; dialect <= 2; dialect++ {
		s := sealed(t, member(dialect, "k"), big)
		expectCheck(t, member(dialect, "k"), s, api.OK)
	}
}

// P13.1: all types that there are, and those beside them.
func TestTypes(t *testing.T) {
	types := []int{100, 101, 110, 200, 201, 210, 220, 221, 230, 420, 421, 430, 500, 510, 800, 810}
	for dialect := 1; dialect <= 3; dialect++ {
		m := member(dialect, "k")
		macs := map[string]int{}
		for kind := -10; kind < 1100; kind++ {
			if !slices.Contains(types, kind) {
				expectRefused(t, m, of(kind), api.ErrMsgType)
				continue
			}
			s := sealed(t, m, of(kind))
			if s.Type != kind || len(s.F) != 1 {
				t.Errorf("Seal of the type %d: %v", kind, s)
			}
			expectCheck(t, m, s, api.OK)
			macs[s.F[0].Text]++
		}
		if len(macs) != len(types) {
			t.Errorf("%d macs of %d types", len(macs), len(types))
		}
	}
}

// P13.1: of a member only its dialect and its key are asked; no key is a key of no bytes.
func TestMembersOfMacs(t *testing.T) {
	s := sealed(t, member(1, "k"), sample())
	m := api.Member{Code: "no code", Dialect: 1, Key: []byte("k"), Stand: api.Stand{Most: -5, Daily: 7}}
	expectSeal(t, m, sample(), s)
	expectCheck(t, m, s, api.OK)
	none := sealed(t, api.Member{Dialect: 1}, sample())
	expectCheck(t, member(1, ""), none, api.OK)
	expectCheck(t, member(1, "\x00\x00"), none, api.OK)
	expectCheck(t, member(1, "\x01"), none, api.ErrMac)
	expectCheck(t, member(2, ""), none, api.ErrMac)
}

// textOf is the n-th text that a field may have, from 0 on.
func textOf(no, n int) string {
	number := func(size int) string {
		text := ""
		for range size {
			text = string(rune('0'+n%10)) + text
			n /= 10
		}
		return text
	}
	switch no {
	case 2:
		return "4" + number(1+n%7)
	case 3, 11, 38:
		return number(6)
	case 4:
		return "00" + number(10)
	case 32:
		return number(1 + n%5)
	case 39:
		return number(2)
	case 49, 70:
		return number(3)
	case 86, 88:
		return number(16)
	case 90:
		return number(20)
	case 97:
		return "CD"[n%2:n%2+1] + number(16)
	}
	return number(10)
}

// randomMessage is a message that all dialects can tell, without a mac.
func randomMessage(r *rand.Rand) api.Msg {
	types := []int{100, 101, 110, 200, 201, 210, 220, 221, 230, 420, 421, 430, 500, 510, 800, 810}
	x := of(types[r.Intn(len(types))])
	for _, no := range []int{2, 3, 4, 7, 11, 32, 38, 39, 49, 70, 74, 76, 86, 88, 90, 97} {
		if r.Intn(3) > 0 {
			x.F = append(x.F, api.Field{No: no, Text: textOf(no, r.Intn(100000))})
		}
	}
	return x
}

// P13.1, P13.4: messages by chance, held against the plain words: what is sealed is taken by the same member; a field more, less, another text, type, key or dialect is not.
func TestMacsByChance(t *testing.T) {
	r := rand.New(rand.NewSource(13))
	for range 3000 {
		key := make([]byte, r.Intn(80))
		r.Read(key)
		m := member(1+r.Intn(3), string(key))
		x := randomMessage(r)
		want, e := plainSeal(m, x)
		if e != api.OK {
			t.Fatal(x, e)
		}
		expectSeal(t, m, x, want)
		expectCheck(t, m, want, api.OK)
		expectCheck(t, m, x, api.ErrMac)
		other := changed(r, want)
		expectCheck(t, m, other, plainCheck(m, other))
		if e := Check(m, other); e == api.OK {
			t.Errorf("taken: %v, sealed %v", other, want)
		}
		expectCheck(t, member(m.Dialect%3+1, string(key)), want, api.ErrMac)
		expectCheck(t, member(m.Dialect, string(key)+"\x01"), want, api.ErrMac)
	}
}

// changed is another message with the same mac: a field more, or less, another text, or another type.
func changed(r *rand.Rand, x api.Msg) api.Msg {
	l := slices.Clone(x.F)
	isMac := func(f api.Field) bool { return f.No == 64 }
	switch at := r.Intn(len(l)); {
	case isMac(l[at]):
		types := []int{100, 200, 500, 810}
		kind := types[r.Intn(4)]
		if kind == x.Type {
			kind++ // 101, 201, and two that are none
		}
		return of(kind, l...)
	case r.Intn(3) == 0:
		return of(x.Type, slices.Delete(l, at, at+1)...)
	case r.Intn(2) == 0:
		old := l[at].Text
		for l[at].Text == old {
			l[at].Text = textOf(l[at].No, r.Intn(100000))
		}
		return of(x.Type, l...)
	default:
		no := []int{2, 3, 4, 7, 11, 32, 38, 39, 49, 70, 74, 76, 86, 88, 90, 97}[r.Intn(16)]
		more := message.Set(of(x.Type, l...), no, textOf(no, r.Intn(100000)))
		if slices.Equal(more.F, x.F) {
			return of(x.Type, l[:0]...)
		}
		return more
	}
}

// P13.4: each field more that a message has room for, each field's other text.
func TestEachChange(t *testing.T) {
	for dialect := 1; dialect <= 3; dialect++ {
		m := member(dialect, "a key of some length")
		s := sealed(t, m, sample())
		for _, no := range []int{2, 3, 4, 7, 11, 32, 38, 39, 49, 70, 74, 76, 86, 88, 90, 97} {
			had, _ := message.Get(s, no)
			for n := range 50 {
				want := api.ErrMac
				if textOf(no, n) == had {
					want = api.OK
				}
				expectCheck(t, m, message.Set(s, no, textOf(no, n)), want)
			}
		}
		for at, f := range s.F {
			l := slices.Delete(slices.Clone(s.F), at, at+1)
			expectCheck(t, m, of(800, l...), api.ErrMac)
			if f.No != 64 {
				expectCheck(t, m, of(800, slices.Insert(slices.Clone(s.F), at, f)...), api.ErrMsgField)
			}
		}
	}
}

// P13.4: where the macs are the same another member takes it too; a sealed message goes through its dialect's bytes as it is.
func TestSealedMessagesInBytes(t *testing.T) {
	r := rand.New(rand.NewSource(131))
	for range 500 {
		m := member(1+r.Intn(3), "k")
		s := sealed(t, m, randomMessage(r))
		b, e := message.Encode(m.Dialect, s)
		if e != api.OK {
			t.Fatal(s, e)
		}
		x, e := message.Decode(m.Dialect, b)
		if e != api.OK || !same(x, s) {
			t.Fatal(x, e)
		}
		expectCheck(t, m, x, api.OK)
		expectCheck(t, member(m.Dialect, "k\x00\x00"), x, api.OK)
	}
}

// R6: what is handed in is neither changed nor kept, nor is what stands behind a list's length read.
func TestMemoryOfMacs(t *testing.T) {
	m := member(1, "k")
	want := sealed(t, m, sample())
	room := make([]api.Field, 10)
	for i := range room {
		room[i] = api.Field{No: 64, Text: "behind"}
	}
	copy(room, want.F)
	before := slices.Clone(room)
	key := append(make([]byte, 0, 200), 'k')
	copy(key[1:200], bytes.Repeat([]byte("x"), 199))
	m.Key = key
	for n := range len(want.F) + 1 {
		x := api.Msg{Type: 800, F: room[:n]}
		s, e := Seal(m, x)
		c := Check(m, x)
		if !slices.Equal(room, before) || e != api.OK || (c == api.OK) != (n == 4) {
			t.Fatalf("of %d fields: %v %v, and now there stands %v", n, e, c, room)
		}
		for i := range s.F[:cap(s.F)] {
			s.F[:cap(s.F)][i] = api.Field{No: 3, Text: "mine"}
		}
		if !slices.Equal(room, before) {
			t.Fatalf("of %d fields: the answer shares memory with %v", n, room)
		}
	}
	if string(key[:200]) != "k"+strings.Repeat("x", 199) {
		t.Error("the key is another one now")
	}
	one, two := sealed(t, m, sample()), sealed(t, m, sample())
	one.F[0].Text = "mine"
	m.Key[0] = 'l'
	expectCheck(t, member(1, "k"), two, api.OK)
	expectCheck(t, m, two, api.ErrMac)
}

func must(t *testing.T, members int) *Board {
	t.Helper()
	b, e := New(members)
	if e != api.OK || b == nil {
		t.Fatalf("New(%d): %v", members, e)
	}
	return b
}

func sign(t *testing.T, b *Board, member int, on bool, want api.Errno) {
	t.Helper()
	if e := b.Sign(member, on); e != want {
		t.Errorf("Sign(%d, %v): %v, want %v", member, on, e, want)
	}
}

func block(t *testing.T, b *Board, member int, on bool, want api.Errno) {
	t.Helper()
	if e := b.Block(member, on); e != want {
		t.Errorf("Block(%d, %v): %v, want %v", member, on, e, want)
	}
}

func expectReady(t *testing.T, b *Board, member int, want bool) {
	t.Helper()
	if is := b.Ready(member); is != want {
		t.Errorf("Ready(%d): %v, want %v", member, is, want)
	}
}

func expectLook(t *testing.T, b *Board, member int, signed, blocked bool) {
	t.Helper()
	if s, bl := b.Look(member); s != signed || bl != blocked {
		t.Errorf("Look(%d): %v %v, want %v %v", member, s, bl, signed, blocked)
	}
	expectReady(t, b, member, signed && !blocked)
}

// nobody are numbers of no member of so many.
func nobody(members int) []int {
	return []int{-1, members, members + 1, -members, -7, 7, 8, 100, math.MinInt, math.MaxInt, 1 << 32, -1 << 32}
}

// plain is a board in the chapter's words: the members of whom it is so.
type plain struct {
	members         int
	signed, blocked map[int]int
}

func newPlain(members int) *plain {
	return &plain{members, map[int]int{}, map[int]int{}}
}

func (p *plain) set(l map[int]int, member int, on bool) api.Errno {
	if member < 0 || member > p.members-1 {
		return api.ErrMember
	}
	delete(l, member)
	if on {
		l[member] = 1
	}
	return api.OK
}

func (p *plain) clone() *plain {
	other := newPlain(p.members)
	for member := range p.signed {
		other.signed[member] = 1
	}
	for member := range p.blocked {
		other.blocked[member] = 1
	}
	return other
}

// expectBoard holds all that can be asked of a board against a plain one.
func expectBoard(t *testing.T, b *Board, p *plain) {
	t.Helper()
	for member := range p.members {
		expectLook(t, b, member, p.signed[member] == 1, p.blocked[member] == 1)
	}
	for _, member := range nobody(p.members) {
		expectLook(t, b, member, false, false)
	}
}

// P13.2: boards of 1 to MaxMembers members, all signed off, none blocked.
func TestNew(t *testing.T) {
	for members := -20; members <= 20; members++ {
		if members >= 1 && members <= 6 {
			expectBoard(t, must(t, members), newPlain(members))
			continue
		}
		if b, e := New(members); b != nil || e != api.ErrMember {
			t.Errorf("New(%d): %v %v", members, b, e)
		}
	}
	for _, members := range []int{math.MinInt, math.MaxInt, 1 << 32, 1<<32 + 1, -1 << 32} {
		if b, e := New(members); b != nil || e != api.ErrMember {
			t.Errorf("New(%d): %v %v", members, b, e)
		}
	}
}

// P13.2: of nobody nothing is set, and nothing changes.
func TestNobody(t *testing.T) {
	for members := 1; members <= 6; members++ {
		b, p := must(t, members), newPlain(members)
		for round := range 2 {
			for _, member := range nobody(members) {
				for _, on := range []bool{true, false} {
					sign(t, b, member, on, api.ErrMember)
					block(t, b, member, on, api.ErrMember)
					expectBoard(t, b, p)
				}
			}
			if round > 0 {
				break
			}
			for member := range members {
				sign(t, b, member, true, api.OK)
				block(t, b, member, true, api.OK)
				p.set(p.signed, member, true)
				p.set(p.blocked, member, true)
			}
		}
	}
}

// P13.2: each member of each board, in each of its states, to each other one: it alone, and only what was asked.
func TestEachMember(t *testing.T) {
	for members := 1; members <= 6; members++ {
		for states := range 1 << (2 * members) {
			if members > 4 && states%7 != 0 {
				continue // some are enough
			}
			b, p := must(t, members), newPlain(members)
			for member := range members {
				on, blocked := states>>(2*member)&1 == 1, states>>(2*member+1)&1 == 1
				sign(t, b, member, on, api.OK)
				block(t, b, member, blocked, api.OK)
				p.set(p.signed, member, on)
				p.set(p.blocked, member, blocked)
			}
			expectBoard(t, b, p)
			for member := range members {
				for _, on := range []bool{true, false} {
					c, q := b.Clone(), p.clone()
					sign(t, c, member, on, q.set(q.signed, member, on))
					expectBoard(t, c, q)
					block(t, c, member, !on, q.set(q.blocked, member, !on))
					expectBoard(t, c, q)
				}
			}
		}
	}
}

// P13.2: Reset signs all off; those that are blocked stay so.
func TestReset(t *testing.T) {
	for members := 1; members <= 6; members++ {
		b := must(t, members)
		for member := range members {
			sign(t, b, member, true, api.OK)
			block(t, b, member, member%2 == 0, api.OK)
		}
		for range 2 {
			b.Reset()
			for member := range members {
				expectLook(t, b, member, false, member%2 == 0)
			}
		}
		for member := range members {
			sign(t, b, member, true, api.OK)
			expectLook(t, b, member, true, member%2 == 0)
			block(t, b, member, false, api.OK)
			expectReady(t, b, member, true)
		}
	}
}

// P13.2, P13.3: calls by chance on boards and their clones, each held against its plain one.
func TestBoardsByChance(t *testing.T) {
	r := rand.New(rand.NewSource(132))
	for range 200 {
		members := 1 + r.Intn(6)
		boards, plains := []*Board{must(t, members)}, []*plain{newPlain(members)}
		for range 100 {
			i := r.Intn(len(boards))
			b, p := boards[i], plains[i]
			member, on := r.Intn(members+2)-1, r.Intn(3) > 0
			switch r.Intn(8) {
			case 0:
				b.Reset()
				p.signed = map[int]int{}
			case 1:
				if len(boards) < 4 {
					boards, plains = append(boards, b.Clone()), append(plains, p.clone())
				}
			case 2, 3:
				block(t, b, member, on, p.set(p.blocked, member, on))
			default:
				sign(t, b, member, on, p.set(p.signed, member, on))
			}
			for i := range boards {
				expectBoard(t, boards[i], plains[i])
			}
		}
	}
}

// P13.3: a clone is like its board, and has its members; each goes its own way.
func TestClone(t *testing.T) {
	for members := 1; members <= 6; members++ {
		b := must(t, members)
		last := members - 1
		sign(t, b, last, true, api.OK)
		c := b.Clone()
		expectLook(t, c, last, true, false)
		sign(t, c, members, true, api.ErrMember)
		block(t, b, last, true, api.OK)
		expectLook(t, c, last, true, false)
		c.Reset()
		expectLook(t, b, last, true, true)
		expectLook(t, c, last, false, false)
		block(t, c, last, true, api.OK)
		block(t, b, last, false, api.OK)
		expectLook(t, b, last, true, false)
		expectLook(t, c, last, false, true)
	}
}
