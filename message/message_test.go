package message

import (
	"bytes"
	"encoding/hex"
	"errors"
	"fmt"
	"math"
	"math/rand"
	"slices"
	"strconv"
	"strings"
	"testing"

	"groat/api"
	"groat/field"
)

// spec is a field in the chapter's words, with a right text of it.
type spec struct {
	no, kind, size int
	text           string
}

func specs() []spec {
	return []spec{
		{2, api.KindLL, 19, "4000000000000002"},
		{3, api.KindN, 6, "003000"},
		{4, api.KindN, 12, "001234567890"},
		{7, api.KindN, 10, "0229235959"},
		{11, api.KindN, 6, "000017"},
		{32, api.KindLL, 11, "123"},
		{38, api.KindAN, 6, "A1 Z90"},
		{39, api.KindAN, 2, "0S"},
		{49, api.KindN, 3, "978"},
		{64, api.KindB, 8, "00a1b2c3d4e5f6ff"},
		{70, api.KindN, 3, "301"},
		{74, api.KindN, 10, "0000000123"},
		{76, api.KindN, 10, "9876543210"},
		{86, api.KindN, 16, "0123456789012345"},
		{88, api.KindN, 16, "9999999999999999"},
		{90, api.KindN, 20, "02000000170229235959"},
		{97, api.KindX, 16, "D0000000000000042"},
	}
}

func types() []int {
	return []int{100, 101, 110, 200, 201, 210, 220, 221, 230, 420, 421, 430, 500, 510, 800, 810}
}

func dialects() []int { return []int{1, 2, 3} }

func wrongDialects() []int {
	return []int{math.MinInt, math.MinInt32, -3, -1, 0, 4, 5, 9, 257, 1<<32 + 1, math.MaxInt}
}

// wrongNumbers are such as no field has.
func wrongNumbers() []int {
	l := []int{math.MinInt, math.MinInt32, 1<<32 + 2, math.MaxInt}
	for no := -200; no <= 400; no++ {
		if !slices.ContainsFunc(specs(), func(s spec) bool { return s.no == no }) {
			l = append(l, no)
		}
	}
	return l
}

// plainForm is a dialect's form in the chapter's words.
func plainForm(dialect int, s spec) api.Form {
	size := s.size
	if dialect == 3 && s.no == 4 {
		size = 10
	}
	return api.Form{Kind: s.kind, Size: size, Code: dialect}
}

// chosen is a message with the fields whose bits are set.
func chosen(typ, set int) api.Msg {
	m := api.Msg{Type: typ}
	for i, s := range specs() {
		if set>>i&1 == 1 {
			m.F = append(m.F, api.Field{No: s.no, Text: s.text})
		}
	}
	return m
}

func all() api.Msg { return chosen(200, 1<<17-1) }

// anyText is a right one for a field, which chance chooses; such as each dialect may tell.
func anyText(rnd *rand.Rand, s spec) string {
	digits := func(n int) string {
		b := make([]byte, n)
		for i := range b {
			b[i] = byte('0' + rnd.Intn(10))
		}
		return string(b)
	}
	switch {
	case s.no == 4:
		return "00" + digits(10)
	case s.kind == api.KindLL:
		return digits(1 + rnd.Intn(s.size))
	case s.kind == api.KindAN:
		b := make([]byte, s.size)
		for i := range b {
			b[i] = "ABCXYZ019 "[rnd.Intn(10)]
		}
		return string(b)
	case s.kind == api.KindB:
		b := make([]byte, s.size)
		rnd.Read(b)
		return hex.EncodeToString(b)
	case s.kind == api.KindX:
		return "CD"[rnd.Intn(2):][:1] + digits(s.size)
	}
	return digits(s.size)
}

func anyMsg(rnd *rand.Rand) api.Msg {
	m := api.Msg{Type: types()[rnd.Intn(16)]}
	most := rnd.Intn(10) + 1
	for _, s := range specs() {
		if rnd.Intn(10) < most {
			m.F = append(m.F, api.Field{No: s.no, Text: anyText(rnd, s)})
		}
	}
	return m
}

func same(a, b api.Msg) bool { return a.Type == b.Type && slices.Equal(a.F, b.F) }

// plainHead is the type and the map in the chapter's words, the map as a row of bits.
func plainHead(dialect int, m api.Msg) []byte {
	b, e := field.Put(nil, api.Form{Kind: api.KindN, Size: 4, Code: dialect}, []string{"", "0", "1", "9"}[dialect]+strconv.Itoa(m.Type))
	if e != api.OK {
		panic(e)
	}
	row := []byte(strings.Repeat("0", 128))
	for _, f := range m.F {
		row[f.No-1] = '1'
		if f.No > 64 {
			row[0] = '1'
		}
	}
	if row[0] == '0' {
		row = row[:64]
	}
	for ; len(row) > 0; row = row[8:] {
		x, err := strconv.ParseUint(string(row[:8]), 2, 8)
		if err != nil {
			panic(err)
		}
		if dialect == 1 {
			b = append(b, fmt.Sprintf("%02X", x)...)
		} else {
			b = append(b, byte(x))
		}
	}
	return b
}

// plainEncode is the bytes of a right message that the dialect may tell.
func plainEncode(dialect int, m api.Msg) []byte {
	b := plainHead(dialect, m)
	for _, f := range m.F {
		at := slices.IndexFunc(specs(), func(s spec) bool { return s.no == f.No })
		form := plainForm(dialect, specs()[at])
		more, e := field.Put(nil, form, f.Text[max(0, len(f.Text)-form.Size)*tail(dialect, f.No):])
		if e != api.OK {
			panic(fmt.Sprint(dialect, f, e))
		}
		b = append(b, more...)
	}
	return b
}

// tail is 1 if of a text the last digits alone are told.
func tail(dialect, no int) int {
	if dialect == 3 && no == 4 {
		return 1
	}
	return 0
}

// plainBits are 64 bits of a map as noughts and ones.
func plainBits(dialect int, b []byte) (row string, rest []byte, e api.Errno) {
	size := 8
	if dialect == 1 {
		size = 16
	}
	if len(b) < size {
		return "", nil, api.ErrFieldShort
	}
	for _, c := range b[:size] {
		if dialect != 1 {
			row += fmt.Sprintf("%08b", c)
			continue
		}
		at := strings.IndexByte("0123456789ABCDEF", c)
		if at < 0 {
			return "", nil, api.ErrFieldBytes
		}
		row += fmt.Sprintf("%04b", at)
	}
	return row, b[size:], api.OK
}

// plainDecode is Decode in the chapter's words.
func plainDecode(dialect int, b []byte) (api.Msg, api.Errno) {
	text, b, e := field.Take(b, api.Form{Kind: api.KindN, Size: 4, Code: dialect})
	if e != api.OK {
		return api.Msg{}, e
	}
	typ, _ := strconv.Atoi(text[1:])
	if text[0] != "-019"[dialect] || !slices.Contains(types(), typ) {
		return api.Msg{}, api.ErrMsgType
	}
	row, b, e := plainBits(dialect, b)
	if e != api.OK {
		return api.Msg{}, e
	}
	if row[0] == '1' {
		var second string
		if second, b, e = plainBits(dialect, b); e != api.OK {
			return api.Msg{}, e
		}
		if !strings.Contains(second, "1") {
			return api.Msg{}, api.ErrMsgMap
		}
		row += second
	}
	known := 0
	for _, s := range specs() {
		if s.no <= len(row) && row[s.no-1] == '1' {
			known++
		}
	}
	if strings.Count(row[1:], "1") != known {
		return api.Msg{}, api.ErrMsgField
	}
	m := api.Msg{Type: typ}
	for _, s := range specs() {
		if s.no > len(row) || row[s.no-1] != '1' {
			continue
		}
		if text, b, e = field.Take(b, plainForm(dialect, s)); e != api.OK {
			return api.Msg{}, e
		}
		if dialect == 3 && s.no == 4 {
			text = "00" + text
		}
		m.F = append(m.F, api.Field{No: s.no, Text: text})
	}
	if len(b) > 0 {
		return api.Msg{}, api.ErrMsgMore
	}
	return m, api.OK
}

// P5.1
func TestForms(t *testing.T) {
	for _, d := range dialects() {
		for _, s := range specs() {
			if f, e := Form(d, s.no); f != plainForm(d, s) || e != api.OK {
				t.Errorf("Form(%d, %d): %v %v", d, s.no, f, e)
			}
		}
		for _, no := range wrongNumbers() {
			if f, e := Form(d, no); f != (api.Form{}) || e != api.ErrMsgField {
				t.Errorf("Form(%d, %d): %v %v", d, no, f, e)
			}
		}
	}
	if f, _ := Form(3, 4); f != (api.Form{Kind: api.KindN, Size: 10, Code: api.CodeEbcdic}) {
		t.Error(f)
	}
	if f, _ := Form(2, 4); f != (api.Form{Kind: api.KindN, Size: 12, Code: api.CodeBcd}) {
		t.Error(f)
	}
}

// P5.1: a wrong dialect is told ahead of a wrong number.
func TestFormsOfNoDialect(t *testing.T) {
	for _, d := range wrongDialects() {
		for _, no := range []int{-1, 0, 1, 2, 4, 5, 64, 65, 97, 98, math.MaxInt} {
			if f, e := Form(d, no); f != (api.Form{}) || e != api.ErrMsgDialect {
				t.Errorf("Form(%d, %d): %v %v", d, no, f, e)
			}
		}
	}
}

// expectRefused holds for a message that Check refuses: Encode refuses it so, too, in each dialect.
func expectRefused(t *testing.T, m api.Msg, want api.Errno) {
	t.Helper()
	if e := Check(m); e != want {
		t.Errorf("Check(%v): %v, want %v", m, e, want)
	}
	for _, d := range dialects() {
		if b, e := Encode(d, m); len(b) != 0 || e != want {
			t.Errorf("Encode(%d, %v): %x %v, want %v", d, m, b, e, want)
		}
	}
	for _, d := range []int{-1, 0, 4} {
		if b, e := Encode(d, m); len(b) != 0 || e != api.ErrMsgDialect {
			t.Errorf("Encode(%d, %v): %x %v", d, m, b, e)
		}
	}
}

// P5.2, P5.3: a type that is none is told ahead of all else of a message.
func TestTypes(t *testing.T) {
	l := []int{math.MinInt, math.MinInt32, -200, -1, 0x200, 1<<32 + 200, math.MaxInt}
	for n := range 2100 {
		l = append(l, n)
	}
	for _, n := range l {
		if slices.Contains(types(), n) {
			for _, m := range []api.Msg{{Type: n}, chosen(n, 1<<17-1)} {
				if e := Check(m); e != api.OK {
					t.Errorf("Check(%v): %v", m, e)
				}
			}
			continue
		}
		expectRefused(t, chosen(n, 5), api.ErrMsgType)
		expectRefused(t, api.Msg{Type: n, F: []api.Field{{No: 1, Text: "x"}}}, api.ErrMsgType)
		expectRefused(t, api.Msg{Type: n, F: make([]api.Field, 25)}, api.ErrMsgType)
	}
}

// P5.2, P5.3: more than 24 fields are told ahead of what is wrong with the fields.
func TestTooManyFields(t *testing.T) {
	wrong := []api.Field{{No: 2, Text: "1"}, {No: 2, Text: "1"}, {No: 3, Text: "wrong"}, {No: 5}, {No: -1}}
	for n := 18; n < 60; n++ {
		for _, f := range wrong {
			m := api.Msg{Type: 100}
			for range n {
				m.F = append(m.F, f)
			}
			want := api.ErrLong
			if n <= 24 {
				want = api.ErrMsgField
				if f.No == 3 {
					want = api.ErrFieldText
				}
			}
			expectRefused(t, m, want)
			expectRefused(t, api.Msg{Type: 0, F: m.F}, api.ErrMsgType)
		}
	}
	m := all()
	for range 7 {
		m.F = append(m.F, m.F[0])
	}
	expectRefused(t, m, api.ErrMsgField)
	m.F = append(m.F, m.F[0])
	expectRefused(t, m, api.ErrLong)
}

// P5.2: a number that no field has, alone, ahead of fields, among them, and behind them.
func TestNumbersOfNoField(t *testing.T) {
	for _, no := range wrongNumbers() {
		for at := range 4 {
			m := chosen(800, 1<<1|1<<4|1<<16)
			m.F = slices.Insert(m.F, at, api.Field{No: no, Text: "000001"})
			expectRefused(t, m, api.ErrMsgField)
		}
		expectRefused(t, api.Msg{Type: 200, F: []api.Field{{No: no}}}, api.ErrMsgField)
	}
}

// P5.2: each two fields, in each order, and each one doubled.
func TestOrderOfFields(t *testing.T) {
	for i, a := range specs() {
		for j, b := range specs() {
			m := api.Msg{Type: 420, F: []api.Field{{No: a.no, Text: a.text}, {No: b.no, Text: b.text}}}
			if i >= j {
				expectRefused(t, m, api.ErrMsgField)
			} else if e := Check(m); e != api.OK {
				t.Errorf("Check(%v): %v", m, e)
			}
		}
	}
	m := all()
	m.F[15], m.F[16] = m.F[16], m.F[15]
	expectRefused(t, m, api.ErrMsgField)
}

// wrongTexts are such as a field may not have in dialect 1.
func wrongTexts(s spec) []string {
	l := []string{"", s.text + " ", " " + s.text, s.text + "0", s.text[:len(s.text)-1] + "g", s.text[:len(s.text)-1] + "\x00", "x" + s.text[1:], strings.Repeat("0", 65), strings.Repeat("1", 5000), "\xff", "\xf0"}
	if s.kind == api.KindLL {
		l[3] = s.text + strings.Repeat("0", s.size+1-len(s.text))
		return append(l, "1 2", "-1")
	}
	l = append(l, s.text[1:], s.text[:len(s.text)-1])
	if s.kind == api.KindB {
		l = append(l, strings.ToUpper(s.text))
	}
	if s.kind == api.KindX {
		l = append(l, "0"+s.text[1:], "c"+s.text[1:], s.text[1:]+"D", "E"+s.text[1:])
	}
	if s.kind == api.KindAN {
		l = append(l, strings.ToLower(s.text[:len(s.text)-1])+"z", strings.Repeat("-", s.size))
	}
	return l
}

// P5.2: the dialect 1's form is asked, whichever dialect is written.
func TestTextsOfFields(t *testing.T) {
	for i, s := range specs() {
		for _, text := range wrongTexts(s) {
			expectRefused(t, api.Msg{Type: 100, F: []api.Field{{No: s.no, Text: text}}}, api.ErrFieldText)
			m := all()
			m.F[i].Text = text
			expectRefused(t, m, api.ErrFieldText)
		}
	}
	expectRefused(t, api.Msg{Type: 200, F: []api.Field{{No: 4, Text: "0000000001"}}}, api.ErrFieldText)
	for _, s := range specs() {
		if s.kind == api.KindLL {
			for n := 1; n <= s.size; n++ {
				if e := Check(api.Msg{Type: 100, F: []api.Field{{No: s.no, Text: strings.Repeat("9", n)}}}); e != api.OK {
					t.Errorf("field %d, %d digits: %v", s.no, n, e)
				}
			}
		}
	}
}

// P5.2: field by field: what is wrong with the first field that is wrong is told, and of one field its number ahead of its text.
func TestFirstWrongField(t *testing.T) {
	for _, x := range []struct {
		f    []api.Field
		want api.Errno
	}{
		{[]api.Field{{No: 3, Text: "x"}, {No: 5, Text: ""}}, api.ErrFieldText},
		{[]api.Field{{No: 5, Text: ""}, {No: 11, Text: "x"}}, api.ErrMsgField},
		{[]api.Field{{No: 11, Text: "x"}, {No: 3, Text: "000000"}}, api.ErrFieldText},
		{[]api.Field{{No: 11, Text: "000001"}, {No: 3, Text: "x"}}, api.ErrMsgField},
		{[]api.Field{{No: 11, Text: "000001"}, {No: 11, Text: "x"}}, api.ErrMsgField},
		{[]api.Field{{No: 11, Text: "000001"}, {No: 4, Text: "000000000001"}}, api.ErrMsgField},
		{[]api.Field{{No: 2, Text: "1"}, {No: 39, Text: "0"}, {No: 65, Text: ""}, {No: 2, Text: "1"}}, api.ErrFieldText},
		{[]api.Field{{No: 2, Text: "1"}, {No: 65, Text: ""}, {No: 97, Text: "0"}}, api.ErrMsgField},
		{[]api.Field{{No: 0, Text: "0200"}, {No: 2, Text: "1"}}, api.ErrMsgField},
		{[]api.Field{{No: 1, Text: "0000000000000000"}, {No: 2, Text: "1"}}, api.ErrMsgField},
	} {
		expectRefused(t, api.Msg{Type: 200, F: x.f}, x.want)
	}
}

// known are messages with their bytes in each dialect, as hexadecimal digits.
func known() []struct {
	m     api.Msg
	bytes [4]string
} {
	ascii := func(s string) string { return hex.EncodeToString([]byte(s)) }
	echo := api.Msg{Type: 800, F: []api.Field{{No: 7, Text: "0101000000"}, {No: 11, Text: "000001"}, {No: 70, Text: "001"}}}
	pay := api.Msg{Type: 201, F: []api.Field{{No: 2, Text: "45678"}, {No: 4, Text: "000000010050"}, {No: 32, Text: "22"}, {No: 39, Text: "0A"}, {No: 64, Text: "0123456789abcdef"}}}
	total := api.Msg{Type: 510, F: []api.Field{{No: 49, Text: "978"}, {No: 97, Text: "C0000000000000120"}}}
	return []struct {
		m     api.Msg
		bytes [4]string
	}{
		{echo, [4]string{"",
			ascii("0800" + "8220000000000000" + "0400000000000000" + "0101000000" + "000001" + "001"),
			"1800" + "8220000000000000" + "0400000000000000" + "0101000000" + "000001" + "0001",
			"f9f8f0f0" + "8220000000000000" + "0400000000000000" + "f0f1f0f1f0f0f0f0f0f0" + "f0f0f0f0f0f1" + "f0f0f1",
		}},
		{pay, [4]string{"",
			ascii("0201" + "5000000102000001" + "0545678" + "000000010050" + "0222" + "0A" + "0123456789ABCDEF"),
			"1201" + "5000000102000001" + "05045678" + "000000010050" + "0222" + "3041" + "0123456789abcdef",
			"f9f2f0f1" + "5000000102000001" + "f0f5f4f5f6f7f8" + "f0f0f0f0f0f1f0f0f5f0" + "f0f2f2f2" + "f0c1" + "0123456789abcdef",
		}},
		{total, [4]string{"",
			ascii("0510" + "8000000000008000" + "0000000080000000" + "978" + "C0000000000000120"),
			"1510" + "8000000000008000" + "0000000080000000" + "0978" + "43" + "0000000000000120",
			"f9f5f1f0" + "8000000000008000" + "0000000080000000" + "f9f7f8" + "c3" + "f0f0f0f0f0f0f0f0f0f0f0f0f0f1f2f0",
		}},
		{api.Msg{Type: 110}, [4]string{"", ascii("0110" + "0000000000000000"), "1110" + "0000000000000000", "f9f1f1f0" + "0000000000000000"}},
		{api.Msg{Type: 100, F: []api.Field{{No: 2, Text: "1"}}}, [4]string{"", ascii("0100" + "4000000000000000" + "011"), "1100" + "4000000000000000" + "0101", "f9f1f0f0" + "4000000000000000" + "f0f1f1"}},
	}
}

// P5.3, P5.4
func TestKnownMessages(t *testing.T) {
	for _, x := range known() {
		for _, d := range dialects() {
			if b, e := Encode(d, x.m); hex.EncodeToString(b) != x.bytes[d] || e != api.OK {
				t.Errorf("Encode(%d, %v): %x %v, want %s", d, x.m, b, e, x.bytes[d])
			}
			b, _ := hex.DecodeString(x.bytes[d])
			if m, e := Decode(d, b); !same(m, x.m) || e != api.OK {
				t.Errorf("Decode(%d, %x): %v %v, want %v", d, b, m, e, x.m)
			}
		}
	}
}

// expectWritten holds a right message against the plain writer, and its bytes against the message.
func expectWritten(t *testing.T, d int, m api.Msg) {
	t.Helper()
	want := plainEncode(d, m)
	b, e := Encode(d, m)
	if !bytes.Equal(b, want) || e != api.OK {
		t.Fatalf("Encode(%d, %v): %x %v, want %x", d, m, b, e, want)
	}
	if got, e := Decode(d, want); !same(got, m) || e != api.OK {
		t.Fatalf("Decode(%d, %x): %v %v, want %v", d, want, got, e, m)
	}
}

// P5.3, P5.4, P5.6: each type, each field alone, each two, and each set of fields.
func TestMessagesAreThoseOfThePromise(t *testing.T) {
	for _, d := range dialects() {
		for _, typ := range types() {
			expectWritten(t, d, api.Msg{Type: typ})
			expectWritten(t, d, chosen(typ, 1<<17-1))
		}
		for i := range 17 {
			for j := range 17 {
				expectWritten(t, d, chosen(230, 1<<i|1<<j))
				expectWritten(t, d, chosen(230, (1<<17-1)&^(1<<i|1<<j)))
			}
		}
	}
	rnd := rand.New(rand.NewSource(1))
	for range 3000 {
		m := anyMsg(rnd)
		for _, d := range dialects() {
			expectWritten(t, d, m)
		}
	}
}

// P5.3: amounts that the dialect 3 can't tell.
func TestAmountsOfDialect3(t *testing.T) {
	for _, x := range []struct {
		text string
		is   bool
	}{
		{"000000000000", true}, {"009999999999", true}, {"000000000001", true}, {"001000000000", true},
		{"010000000000", false}, {"100000000000", false}, {"110000000000", false}, {"990000000000", false}, {"999999999999", false}, {"090000000000", false}, {"900000000000", false},
	} {
		for _, set := range []int{0, 1, 1<<17 - 1} {
			m := Set(chosen(200, set), 4, x.text)
			for _, d := range []int{1, 2} {
				expectWritten(t, d, m)
			}
			if x.is {
				expectWritten(t, 3, m)
			} else if b, e := Encode(3, m); len(b) != 0 || e != api.ErrFieldText {
				t.Errorf("Encode(3, %v): %x %v", m, b, e)
			}
			if e := Check(m); e != api.OK {
				t.Errorf("Check(%v): %v", m, e)
			}
		}
	}
}

// P5.3: Check's error is told ahead of an amount that the dialect 3 can't tell.
func TestCheckAheadOfAmounts(t *testing.T) {
	big := api.Field{No: 4, Text: "990000000000"}
	expectRefused(t, api.Msg{Type: 200, F: []api.Field{big, {No: 5}}}, api.ErrMsgField)
	expectRefused(t, api.Msg{Type: 200, F: []api.Field{big, big}}, api.ErrMsgField)
	expectRefused(t, api.Msg{Type: 300, F: []api.Field{big}}, api.ErrMsgType)
	expectRefused(t, api.Msg{Type: 200, F: slices.Repeat([]api.Field{big}, 25)}, api.ErrLong)
}

// P5.3, P5.4
func TestNoDialect(t *testing.T) {
	for _, d := range wrongDialects() {
		for _, m := range []api.Msg{{}, all(), {Type: 800}, {Type: 1, F: make([]api.Field, 30)}} {
			if b, e := Encode(d, m); len(b) != 0 || e != api.ErrMsgDialect {
				t.Errorf("Encode(%d, %v): %x %v", d, m, b, e)
			}
		}
		for _, b := range [][]byte{nil, []byte("x"), []byte("0800"), plainEncode(1, all()), plainEncode(2, all()), plainEncode(3, all())} {
			expectDecode(t, d, b, api.Msg{}, api.ErrMsgDialect)
		}
	}
}

func expectDecode(t *testing.T, d int, b []byte, m api.Msg, want api.Errno) {
	t.Helper()
	got, e := Decode(d, b)
	if !same(got, m) || e != want {
		t.Errorf("Decode(%d, %x): %v %v, want %v %v", d, b, got, e, m, want)
	}
}

func expectNoMsg(t *testing.T, d int, b []byte, want api.Errno) {
	t.Helper()
	expectDecode(t, d, b, api.Msg{}, want)
}

// P5.4: bytes that end early, anywhere, and bytes that are left.
func TestEndsOfMessages(t *testing.T) {
	rnd := rand.New(rand.NewSource(2))
	l := []api.Msg{all(), {Type: 800}, known()[0].m, known()[1].m}
	for range 100 {
		l = append(l, anyMsg(rnd))
	}
	for _, m := range l {
		for _, d := range dialects() {
			b := plainEncode(d, m)
			for n := range b {
				expectNoMsg(t, d, b[:n], api.ErrFieldShort)
			}
			for _, more := range []string{"\x00", "0", "\xf0", "00", "\xff\xff", string(b), strings.Repeat("1", 600), strings.Repeat("\x00", 1<<20)} {
				expectNoMsg(t, d, append(slices.Clone(b), more...), api.ErrMsgMore)
			}
		}
	}
}

// P5.4: the longest messages that there are.
func TestLongestMessages(t *testing.T) {
	m := Set(Set(all(), 2, strings.Repeat("9", 19)), 32, strings.Repeat("8", 11))
	for d, n := range map[int]int{1: 223, 2: 118, 3: 197} {
		b := plainEncode(d, m)
		if len(b) != n {
			t.Errorf("dialect %d: %d bytes", d, len(b))
		}
		expectDecode(t, d, b, m, api.OK)
		expectNoMsg(t, d, append(b, 0), api.ErrMsgMore)
	}
}

// P5.4: each type of four digits, with its version.
func TestTypesOfBytes(t *testing.T) {
	versions := []string{"", "0", "1", "9"}
	for _, d := range dialects() {
		for n := range 10000 {
			text := strconv.Itoa(n + 10000)[1:]
			b, _ := field.Put(nil, api.Form{Kind: api.KindN, Size: 4, Code: d}, text)
			b = append(b, plainHead(d, api.Msg{Type: 100})[len(b):]...)
			if text[:1] == versions[d] && slices.Contains(types(), n%1000) {
				expectDecode(t, d, b, api.Msg{Type: n % 1000}, api.OK)
			} else {
				expectNoMsg(t, d, b, api.ErrMsgType)
			}
		}
	}
}

// P5.4: a type that is wrong is told ahead of all that stands behind it, or does not; too few bytes ahead of wrong ones.
func TestWrongTypesComeFirst(t *testing.T) {
	for _, x := range []struct {
		d    int
		b    string
		want api.Errno
	}{
		{1, "", api.ErrFieldShort}, {1, "x", api.ErrFieldShort}, {1, "080", api.ErrFieldShort}, {1, "xxx", api.ErrFieldShort},
		{1, "080x", api.ErrFieldBytes}, {1, "x800", api.ErrFieldBytes}, {1, "08 0", api.ErrFieldBytes}, {1, "\xf9\xf8\xf0\xf0", api.ErrFieldBytes}, {1, "+800", api.ErrFieldBytes}, {1, "-800", api.ErrFieldBytes},
		{1, "1800", api.ErrMsgType}, {1, "9800", api.ErrMsgType}, {1, "0801", api.ErrMsgType}, {1, "0300", api.ErrMsgType}, {1, "0000", api.ErrMsgType}, {1, "0501z", api.ErrMsgType}, {1, "2800zzzzzzzzzzzzzzzz", api.ErrMsgType},
		{1, "0800", api.ErrFieldShort}, {1, "0800zzzzz", api.ErrFieldShort},
		{2, "", api.ErrFieldShort}, {2, "\x18", api.ErrFieldShort}, {2, "\xff", api.ErrFieldShort},
		{2, "\x18\x0a", api.ErrFieldBytes}, {2, "\xa8\x00", api.ErrFieldBytes}, {2, "\x1f\x00", api.ErrFieldBytes}, {2, "\x18\xf0", api.ErrFieldBytes},
		{2, "\x08\x00", api.ErrMsgType}, {2, "\x98\x00", api.ErrMsgType}, {2, "\x18\x01", api.ErrMsgType}, {2, "08", api.ErrMsgType}, {2, "\x10\x00\xff", api.ErrMsgType},
		{2, "\x18\x00", api.ErrFieldShort},
		{3, "\xf9\xf8\xf0", api.ErrFieldShort}, {3, "xxx", api.ErrFieldShort},
		{3, "0800", api.ErrFieldBytes}, {3, "\xf9\xf8\xf0\xfa", api.ErrFieldBytes}, {3, "\x40\xf8\xf0\xf0", api.ErrFieldBytes}, {3, "\xc9\xf8\xf0\xf0", api.ErrFieldBytes},
		{3, "\xf0\xf8\xf0\xf0", api.ErrMsgType}, {3, "\xf1\xf8\xf0\xf0", api.ErrMsgType}, {3, "\xf9\xf8\xf0\xf1", api.ErrMsgType}, {3, "\xf9\xf3\xf0\xf0\xff\xff\xff\xff\xff\xff\xff\xff", api.ErrMsgType},
		{3, "\xf9\xf8\xf0\xf0", api.ErrFieldShort},
	} {
		expectNoMsg(t, x.d, []byte(x.b), x.want)
	}
}

// P5.4: each byte in each place of the dialect 1's map: small letters are no digits of it.
func TestDigitsOfTheMap(t *testing.T) {
	for _, half := range []string{"0000000000000000", "8000000000000000" + "0400000000000000"} {
		for at := range half {
			for c := range 256 {
				b := []byte("0810" + half + "001")
				b[4+at] = byte(c)
				m, e := plainDecode(1, b)
				if strings.IndexByte("0123456789ABCDEF", byte(c)) < 0 {
					m, e = api.Msg{}, api.ErrFieldBytes
				}
				expectDecode(t, 1, b, m, e)
			}
		}
	}
	expectNoMsg(t, 1, []byte("0800"+"822000000000000a"), api.ErrFieldBytes)
	expectNoMsg(t, 1, []byte("0800"+"c000000000000000"), api.ErrFieldBytes)
}

// headOf is a type and a map of 64 or 128 bits, as hexadecimal digits, as bytes of a dialect.
func headOf(d int, digits string) []byte {
	b := plainHead(d, api.Msg{Type: 800})
	b = b[:len(b)-len(plainMap(d, "0000000000000000"))]
	return append(b, plainMap(d, digits)...)
}

func plainMap(d int, digits string) []byte {
	if d == 1 {
		return []byte(strings.ToUpper(digits))
	}
	b, err := hex.DecodeString(digits)
	if err != nil {
		panic(err)
	}
	return b
}

// P5.4: each bit of the map alone: of a field that there is the bytes are missed, all others are of no field.
func TestBitsOfTheMap(t *testing.T) {
	for _, d := range dialects() {
		for no := 2; no <= 128; no++ {
			first, second := "", ""
			if no <= 64 {
				first = fmt.Sprintf("%016x", uint64(1)<<(64-no))
			} else {
				first, second = "8000000000000000", fmt.Sprintf("%016x", uint64(1)<<(128-no))
			}
			at := slices.IndexFunc(specs(), func(s spec) bool { return s.no == no })
			b := headOf(d, first+second)
			if at < 0 {
				expectNoMsg(t, d, b, api.ErrMsgField)
				expectNoMsg(t, d, append(b, bytes.Repeat([]byte("1"), 40)...), api.ErrMsgField)
				continue
			}
			expectNoMsg(t, d, b, api.ErrFieldShort)
			m := chosen(800, 1<<at)
			text, _ := field.Put(b, plainForm(d, specs()[at]), m.F[0].Text[2*tail(d, no):])
			expectDecode(t, d, text, m, api.OK)
		}
	}
}

// P5.4: the order of what may be wrong with a map.
func TestWrongMaps(t *testing.T) {
	const none, more = "0000000000000000", "8000000000000000"
	for _, d := range dialects() {
		for _, x := range []struct {
			head string
			want api.Errno
		}{
			{more + none, api.ErrMsgMap},
			{"ffffffffffffffff" + none, api.ErrMsgMap},
			{"c000000000000000" + none, api.ErrMsgMap},
			{"ffffffffffffffff" + "ffffffffffffffff", api.ErrMsgField},
			{more + more, api.ErrMsgField},
			{"8220000000000000" + "8400000000000000", api.ErrMsgField},
			{more + "0000000000000001", api.ErrMsgField},
			{"7fffffffffffffff", api.ErrMsgField},
			{"0800000000000000", api.ErrMsgField},
			{"4800000000000000", api.ErrMsgField},
			{"8800000000000000" + "0400000000000000", api.ErrMsgField},
			{more, api.ErrFieldShort},
			{"8800000000000000", api.ErrFieldShort},
			{"8800000000000000" + "04000000000000", api.ErrFieldShort},
			{"88000000000000", api.ErrFieldShort},
		} {
			expectNoMsg(t, d, headOf(d, x.head), x.want)
		}
	}
	for text, want := range map[string]api.Errno{
		"80000000000000zz":                      api.ErrFieldBytes,
		"88000000000000z":                       api.ErrFieldShort,
		"8800000000000000" + "00000000000000z":  api.ErrFieldShort,
		"8800000000000000" + "000000000000000z": api.ErrFieldBytes,
		"8800000000000000" + "zzzzzzzzzzzzzzzz": api.ErrFieldBytes,
		"880000000000000z" + "000":              api.ErrFieldBytes,
		"0800000000000000" + "zzzzzzzzzzzzzzzz": api.ErrMsgField,
	} {
		expectNoMsg(t, 1, []byte("0800"+text), want)
	}
}

// P5.4: of fields the first wrong one is told, and what it is wrong by; bytes that are left are told last.
func TestWrongFieldsOfBytes(t *testing.T) {
	for _, x := range []struct {
		d    int
		b    string
		want api.Errno
	}{
		{1, "0100" + "4000000000000000" + "001", api.ErrFieldBytes},
		{1, "0100" + "4000000000000000" + "20" + strings.Repeat("1", 20), api.ErrFieldBytes},
		{1, "0100" + "4000000000000000" + "0", api.ErrFieldShort},
		{1, "0100" + "4000000000000000" + "0x", api.ErrFieldBytes},
		{1, "0100" + "4000000000000000" + "021", api.ErrFieldShort},
		{1, "0100" + "4000000000000000" + "02xx", api.ErrFieldBytes},
		{1, "0100" + "4020000000000000" + "02xx" + "000", api.ErrFieldBytes},
		{1, "0100" + "4020000000000000" + "0211" + "000", api.ErrFieldShort},
		{1, "0100" + "4020000000000000" + "0211" + "00000x" + "zz", api.ErrFieldBytes},
		{1, "0100" + "4020000000000000" + "0211" + "000001" + "zz", api.ErrMsgMore},
		{1, "0100" + "0000000000000001" + "0123456789abcdef", api.ErrFieldBytes},
		{1, "0100" + "0000000002000000" + "a0", api.ErrFieldBytes},
		{2, "\x11\x00" + "\x40\x00\x00\x00\x00\x00\x00\x00" + "\x03\x14\x56", api.ErrFieldBytes},
		{2, "\x11\x00" + "\x40\x00\x00\x00\x00\x00\x00\x00" + "\x20" + strings.Repeat("\x11", 10), api.ErrFieldBytes},
		{2, "\x11\x00" + "\x00\x00\x00\x00\x00\x00\x80\x00" + "\x19\x78", api.ErrFieldBytes},
		{2, "\x11\x00" + "\x00\x00\x00\x00\x00\x00\x80\x00" + "\x09", api.ErrFieldShort},
		{3, "\xf9\xf1\xf0\xf0" + "\x00\x20\x00\x00\x00\x00\x00\x00" + "000001", api.ErrFieldBytes},
		{3, "\xf9\xf1\xf0\xf0" + "\x10\x00\x00\x00\x00\x00\x00\x00" + strings.Repeat("\xf0", 9), api.ErrFieldShort},
		{3, "\xf9\xf1\xf0\xf0" + "\x10\x00\x00\x00\x00\x00\x00\x00" + strings.Repeat("\xf0", 12), api.ErrMsgMore},
	} {
		expectNoMsg(t, x.d, []byte(x.b), x.want)
	}
}

// P5.4: each byte in each place of messages.
func TestEachByteOfMessages(t *testing.T) {
	for _, m := range []api.Msg{all(), known()[0].m} {
		for _, d := range dialects() {
			b := plainEncode(d, m)
			for at := range b {
				was := b[at]
				for c := range 256 {
					b[at] = byte(c)
					want, e := plainDecode(d, b)
					expectDecode(t, d, b, want, e)
				}
				b[at] = was
			}
		}
	}
}

// P5.5
func TestGet(t *testing.T) {
	for i, s := range specs() {
		if text, is := Get(all(), s.no); text != s.text || !is {
			t.Errorf("Get of %d: %q %v", s.no, text, is)
		}
		if text, is := Get(chosen(800, (1<<17-1)&^(1<<i)), s.no); text != "" || is {
			t.Errorf("Get of no %d: %q %v", s.no, text, is)
		}
	}
	any := api.Msg{Type: -5, F: []api.Field{{No: 9, Text: "first"}, {No: 2, Text: ""}, {No: 9, Text: "second"}, {No: -1, Text: "\xff"}, {No: 2, Text: "behind"}, {No: math.MaxInt, Text: "last"}}}
	for _, x := range []struct {
		no   int
		text string
		is   bool
	}{{9, "first", true}, {2, "", true}, {-1, "\xff", true}, {math.MaxInt, "last", true}, {0, "", false}, {1, "", false}, {3, "", false}, {math.MinInt, "", false}} {
		if text, is := Get(any, x.no); text != x.text || is != x.is {
			t.Errorf("Get(%d): %q %v", x.no, text, is)
		}
	}
	if text, is := Get(api.Msg{}, 0); text != "" || is {
		t.Error(text, is)
	}
}

// plainSet is Set in the chapter's words, told by what stands ahead and behind.
func plainSet(m api.Msg, no int, text string) api.Msg {
	var ahead, behind []api.Field
	for _, f := range m.F {
		if f.No == no {
			continue
		}
		if len(behind) > 0 || f.No > no {
			behind = append(behind, f)
		} else {
			ahead = append(ahead, f)
		}
	}
	return api.Msg{Type: m.Type, F: slices.Concat(ahead, []api.Field{{No: no, Text: text}}, behind)}
}

// P5.5
func TestSetOfKnownMessages(t *testing.T) {
	f := func(nos ...int) []api.Field {
		var l []api.Field
		for _, no := range nos {
			l = append(l, api.Field{No: no, Text: strconv.Itoa(no)})
		}
		return l
	}
	for _, x := range []struct {
		was  []api.Field
		no   int
		want []api.Field
	}{
		{nil, 7, f(7)},
		{f(7), 7, f(7)},
		{f(2, 11), 7, f(2, 7, 11)},
		{f(2, 7, 11), 7, f(2, 7, 11)},
		{f(2, 3), 7, f(2, 3, 7)},
		{f(11, 12), 7, f(7, 11, 12)},
		{f(7, 2, 7, 11, 7), 7, f(2, 7, 11)},
		{f(11, 2, 7), 7, f(7, 11, 2)},
		{f(2, 11, 3, 12), 7, f(2, 7, 11, 3, 12)},
		{f(5, 4, 3), 2, f(2, 5, 4, 3)},
		{f(5, 4, 3), 9, f(5, 4, 3, 9)},
		{f(7, 7, 7), 7, f(7)},
		{f(1, 1, 2, 2), -3, f(-3, 1, 1, 2, 2)},
		{f(1, 1, 2, 2), math.MaxInt, f(1, 1, 2, 2, math.MaxInt)},
		{f(math.MaxInt, math.MinInt), math.MinInt, f(math.MinInt, math.MaxInt)},
	} {
		m := Set(api.Msg{Type: 77, F: x.was}, x.no, strconv.Itoa(x.no))
		if !same(m, api.Msg{Type: 77, F: x.want}) {
			t.Errorf("Set(%v, %d): %v, want %v", x.was, x.no, m, x.want)
		}
	}
}

// P5.5: all lists of up to five numbers.
func TestSetOfAllLists(t *testing.T) {
	for n := range 6 {
		count := int(math.Pow(4, float64(n)))
		for list := range count {
			m := api.Msg{Type: list}
			for at := range n {
				m.F = append(m.F, api.Field{No: list >> (2 * at) & 3, Text: strconv.Itoa(at)})
			}
			was := slices.Clone(m.F)
			for no := -1; no < 5; no++ {
				got := Set(m, no, "new")
				if !same(got, plainSet(m, no, "new")) {
					t.Fatalf("Set(%v, %d): %v", m, no, got)
				}
				if text, is := Get(got, no); text != "new" || !is {
					t.Fatalf("Get behind Set(%v, %d): %q %v", m, no, text, is)
				}
				if !slices.Equal(m.F, was) {
					t.Fatalf("Set changed %v into %v", was, m.F)
				}
			}
		}
	}
}

// P5.5, R6: neither a list nor the room behind it is changed, and an answer has memory of its own.
func TestSetLeavesItsMessage(t *testing.T) {
	for _, no := range []int{1, 2, 3, 4, 5, 6, 7} {
		room := make([]api.Field, 10)
		for i := range room {
			room[i] = api.Field{No: 2 * (i + 1), Text: "was"}
		}
		was := slices.Clone(room)
		m := Set(api.Msg{F: room[:3]}, no, "new")
		if !same(m, plainSet(api.Msg{F: was[:3]}, no, "new")) || !slices.Equal(room, was) {
			t.Fatalf("Set of %d: %v; %v", no, m, room)
		}
		for i := range m.F[:cap(m.F)] {
			m.F[:cap(m.F)][i] = api.Field{No: -1}
		}
		if !slices.Equal(room, was) {
			t.Errorf("Set of %d shares memory: %v", no, room)
		}
	}
}

// P5.3, P5.4, R6: messages and bytes are left as they are, and answers have memory of their own.
func TestMessagesAndBytesAreLeft(t *testing.T) {
	for _, d := range dialects() {
		room := append(all().F, api.Field{No: -1, Text: "room"}, api.Field{No: -2})
		m := api.Msg{Type: 200, F: room[:17]}
		was := slices.Clone(room)
		b, e := Encode(d, m)
		again, _ := Encode(d, m)
		if e != api.OK || !slices.Equal(room, was) {
			t.Fatalf("Encode(%d): %v; %v", d, e, room)
		}
		for i := range again[:cap(again)] {
			again[:cap(again)][i] = 0xee
		}
		if !bytes.Equal(b, plainEncode(d, m)) {
			t.Errorf("dialect %d: two answers share memory", d)
		}
		bytesRoom := append(slices.Clone(b), "room"...)
		wasBytes := slices.Clone(bytesRoom)
		got, e := Decode(d, bytesRoom[:len(b)])
		if e != api.OK || !bytes.Equal(bytesRoom, wasBytes) {
			t.Fatalf("Decode(%d): %v; %x", d, e, bytesRoom)
		}
		for i := range bytesRoom {
			bytesRoom[i] = 0xee
		}
		if !same(got, m) {
			t.Errorf("dialect %d: the message shares memory with the bytes: %v", d, got)
		}
	}
}

// P5.6: what one dialect tells, another one tells, and bytes that are read are written as they were.
func TestRoundTrips(t *testing.T) {
	rnd := rand.New(rand.NewSource(3))
	for range 2000 {
		m := anyMsg(rnd)
		for _, d := range dialects() {
			b, e := Encode(d, m)
			if e != api.OK {
				t.Fatalf("Encode(%d, %v): %v", d, m, e)
			}
			got, e := Decode(d, b)
			if !same(got, m) || e != api.OK {
				t.Fatalf("Decode(%d, %x): %v %v", d, b, got, e)
			}
			if e := Check(got); e != api.OK {
				t.Fatalf("Check(%v): %v", got, e)
			}
			other := rnd.Intn(3) + 1
			otherBytes, _ := Encode(other, got)
			if last, e := Decode(other, otherBytes); !same(last, m) || e != api.OK {
				t.Fatalf("%v by the dialects %d and %d: %v %v", m, d, other, last, e)
			}
		}
	}
}

// P5.6: whatever bytes are a message's are written as they were: messages of which bytes were changed, cut and doubled.
func TestWhatIsReadIsWritten(t *testing.T) {
	rnd := rand.New(rand.NewSource(4))
	read := 0
	for range 20000 {
		d := rnd.Intn(3) + 1
		b := plainEncode(d, anyMsg(rnd))
		for range rnd.Intn(3) {
			at := rnd.Intn(len(b))
			switch rnd.Intn(4) {
			case 0:
				b[at] = byte(rnd.Intn(256))
			case 1:
				b[at] ^= 1 << rnd.Intn(8)
			case 2:
				b = slices.Delete(b, at, at+1)
			case 3:
				b = slices.Insert(b, at, b[at])
			}
		}
		want, wantE := plainDecode(d, b)
		m, e := Decode(d, b)
		if !same(m, want) || e != wantE {
			t.Fatalf("Decode(%d, %x): %v %v, want %v %v", d, b, m, e, want, wantE)
		}
		if e == api.OK {
			read++
			if again, e := Encode(d, m); !bytes.Equal(again, b) || e != api.OK {
				t.Fatalf("Encode(%d, %v): %x %v, want %x", d, m, again, e, b)
			}
		}
	}
	if read < 4000 {
		t.Errorf("only %d were read", read)
	}
}

// Ways: what is wrong with a field is wrapped with the field's number; the face asks what is below.
func TestNumbersOfWrongFields(t *testing.T) {
	expect := func(err error, no int, below error, told string) {
		t.Helper()
		var wrong fieldError
		if !errors.As(err, &wrong) || wrong.no != no || !errors.Is(err, below) || err.Error() != told {
			t.Errorf("%v, want field %d: %v", err, no, below)
		}
	}
	m := chosen(200, 1<<17-1)
	m.F[8].Text = "x"
	expect(check(m), 49, errText, "field 49: no text of such a field")
	expect(check(api.Msg{Type: 200, F: []api.Field{{No: 65}}}), 65, errField, "field 65: no such field, or not in its place")
	_, err := encode(3, api.Msg{Type: 200, F: []api.Field{{No: 4, Text: "990000000000"}}})
	expect(err, 4, errText, "field 4: no text of such a field")
	for _, x := range []struct {
		b     string
		no    int
		below error
	}{
		{"080", typeNo, errShort}, {"080x", typeNo, errBytes}, {"0800000", mapNo, errShort}, {"0800zzzzzzzzzzzzzzzz", mapNo, errBytes},
		{"0800" + "0020000000000000" + "0", 11, errShort}, {"0800" + "0220000000000000" + "0101000000" + "x00000", 11, errBytes}, {"0800" + "0010000000000000", 12, errField},
	} {
		_, err := decode(1, []byte(x.b))
		expect(err, x.no, x.below, "field "+strconv.Itoa(x.no)+": "+x.below.Error())
	}
	for _, err := range []error{errDialect, errType, errLong, errMap, errMore} {
		if errors.As(err, new(fieldError)) {
			t.Errorf("%v is no field's", err)
		}
	}
}

// R1: all arguments.
func TestAllArguments(t *testing.T) {
	rnd := rand.New(rand.NewSource(5))
	numbers := []int{math.MinInt, -1, 0, 1, 2, 3, 4, 5, 64, 65, 97, 128, 129, math.MaxInt}
	texts := []string{"", "0", "\xff", "1234567890", strings.Repeat("9", 100), "\x00", strings.Repeat("0", 12)}
	for range 20000 {
		d := numbers[rnd.Intn(len(numbers))]
		m := api.Msg{Type: types()[rnd.Intn(16)]}
		if rnd.Intn(4) == 0 {
			m.Type = numbers[rnd.Intn(len(numbers))]
		}
		for range rnd.Intn(28) {
			m.F = append(m.F, api.Field{No: numbers[rnd.Intn(len(numbers))], Text: texts[rnd.Intn(len(texts))]})
		}
		Form(d, numbers[rnd.Intn(len(numbers))])
		Check(m)
		if b, e := Encode(d, m); e != api.OK && len(b) != 0 {
			t.Fatalf("Encode(%d, %v): %x %v", d, m, b, e)
		}
		Get(m, numbers[rnd.Intn(len(numbers))])
		Set(m, numbers[rnd.Intn(len(numbers))], texts[rnd.Intn(len(texts))])
		b := make([]byte, rnd.Intn(64))
		rnd.Read(b)
		if m, e := Decode(d, b); e != api.OK && !same(m, api.Msg{}) {
			t.Fatalf("Decode(%d, %x): %v %v", d, b, m, e)
		}
	}
	for _, d := range dialects() {
		expectNoMsg(t, d, nil, api.ErrFieldShort)
		expectNoMsg(t, d, []byte{}, api.ErrFieldShort)
	}
}
