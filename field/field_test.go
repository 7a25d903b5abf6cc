package field

import (
	"bytes"
	"math"
	"math/rand"
	"slices"
	"strconv"
	"strings"
	"testing"

	"groat/api"
)

const (
	nn    = api.KindN
	ll    = api.KindLL
	an    = api.KindAN
	bb    = api.KindB
	xx    = api.KindX
	ascii = api.CodeAscii
	bcd   = api.CodeBcd
	ebc   = api.CodeEbcdic
)

func kinds() []int { return []int{nn, ll, an, bb, xx} }

func codes() []int { return []int{ascii, bcd, ebc} }

// forms are all that may be, of up to that size.
func forms(most int) []api.Form {
	var l []api.Form
	for _, kind := range kinds() {
		for _, c := range codes() {
			for size := 1; size <= most; size++ {
				l = append(l, api.Form{Kind: kind, Size: size, Code: c})
			}
		}
	}
	return l
}

// wrongForms may not be, each for one reason or for several.
func wrongForms() []api.Form {
	var l []api.Form
	for _, wrong := range []int{math.MinInt, math.MinInt32, -1, 0, 6, 7, 65, 257, 1<<32 + 1, math.MaxInt} {
		l = append(l, api.Form{Kind: wrong, Size: wrong, Code: wrong})
		for _, kind := range kinds() {
			l = append(l, api.Form{Kind: kind, Size: 3, Code: wrong})
			if wrong != 6 && wrong != 7 {
				l = append(l, api.Form{Kind: kind, Size: wrong, Code: ascii})
			}
		}
		for _, c := range codes() {
			l = append(l, api.Form{Kind: wrong, Size: 3, Code: c})
		}
	}
	for _, kind := range kinds() {
		l = append(l, api.Form{Kind: kind, Size: 3, Code: 4})
	}
	return append(l, api.Form{}, api.Form{Kind: nn}, api.Form{Size: 1}, api.Form{Code: 1}, api.Form{Kind: nn, Size: 1}, api.Form{Kind: nn, Code: 1}, api.Form{Size: 1, Code: 1})
}

// sorts are the characters that may stand in a kind's text, the first one and all behind it.
func sorts(kind int) (first, others string) {
	const digits = "0123456789"
	switch kind {
	case an:
		return digits + "ABCDEFGHIJKLMNOPQRSTUVWXYZ ", digits + "ABCDEFGHIJKLMNOPQRSTUVWXYZ "
	case bb:
		return digits + "abcdef", digits + "abcdef"
	case xx:
		return "CD", digits
	}
	return digits, digits
}

// lengths are how many characters a form's texts may have, at least and at most.
func lengths(f api.Form) (least, most int) {
	switch f.Kind {
	case ll:
		return 1, f.Size
	case bb:
		return 2 * f.Size, 2 * f.Size
	case xx:
		return f.Size + 1, f.Size + 1
	}
	return f.Size, f.Size
}

// textOf is a right text of so many characters, which chance chooses.
func textOf(rnd *rand.Rand, kind, length int) string {
	first, others := sorts(kind)
	b := []byte{first[rnd.Intn(len(first))]}
	for len(b) < length {
		b = append(b, others[rnd.Intn(len(others))])
	}
	return string(b)
}

func rightText(rnd *rand.Rand, f api.Form) string {
	least, most := lengths(f)
	return textOf(rnd, f.Kind, least+rnd.Intn(most-least+1))
}

// allTexts are all right ones of so many characters.
func allTexts(kind, length int) []string {
	first, others := sorts(kind)
	l := strings.Split(first, "")
	for range length - 1 {
		var longer []string
		for _, s := range l {
			for _, c := range strings.Split(others, "") {
				longer = append(longer, s+c)
			}
		}
		l = longer
	}
	return l
}

// plainByte is a character as a byte, in the chapter's words.
func plainByte(c byte, code int) byte {
	if code != ebc {
		return c
	}
	switch {
	case c >= '0' && c <= '9':
		return 0xf0 + c - '0'
	case c >= 'A' && c <= 'I':
		return 0xc1 + c - 'A'
	case c >= 'J' && c <= 'R':
		return 0xd1 + c - 'J'
	case c >= 'S' && c <= 'Z':
		return 0xe2 + c - 'S'
	}
	return 0x40
}

func plainBytes(text string, code int) []byte {
	var b []byte
	for _, c := range []byte(text) {
		b = append(b, plainByte(c, code))
	}
	return b
}

// plainPairs are digits of 16 two a byte.
func plainPairs(text string) []byte {
	if len(text)%2 == 1 {
		text = "0" + text
	}
	var b []byte
	for i := 0; i < len(text); i += 2 {
		x, err := strconv.ParseUint(text[i:i+2], 16, 8)
		if err != nil {
			panic(err)
		}
		b = append(b, byte(x))
	}
	return b
}

func plainDigits(text string, code int) []byte {
	if code == bcd {
		return plainPairs(text)
	}
	return plainBytes(text, code)
}

// plainPut is a right text as bytes, in the chapter's words.
func plainPut(f api.Form, text string) []byte {
	switch f.Kind {
	case nn:
		return plainDigits(text, f.Code)
	case ll:
		number := strconv.Itoa(len(text) + 100)[1:]
		return append(plainDigits(number, f.Code), plainDigits(text, f.Code)...)
	case an:
		return plainBytes(text, f.Code)
	case xx:
		return append(plainBytes(text[:1], f.Code), plainDigits(text[1:], f.Code)...)
	}
	if f.Code == ascii {
		return []byte(strings.ToUpper(text))
	}
	return plainPairs(text)
}

func expectCheck(t *testing.T, f api.Form, text string, want api.Errno) {
	t.Helper()
	if e := Check(f, text); e != want {
		t.Errorf("Check(%v, %q): %v, want %v", f, text, e, want)
	}
}

// P4.1
func TestFormsThatMayNotBe(t *testing.T) {
	for _, f := range wrongForms() {
		for _, text := range []string{"", "0", "123", "C123", "a0ff", "wrong\x00"} {
			expectCheck(t, f, text, api.ErrFieldForm)
		}
	}
}

// P4.1
func TestRightTexts(t *testing.T) {
	rnd := rand.New(rand.NewSource(1))
	for _, f := range forms(64) {
		least, most := lengths(f)
		for length := least; length <= most; length++ {
			expectCheck(t, f, textOf(rnd, f.Kind, length), api.OK)
		}
	}
}

// P4.1: a character too few, or too many.
func TestLengthsOfTexts(t *testing.T) {
	rnd := rand.New(rand.NewSource(2))
	for _, f := range forms(64) {
		least, most := lengths(f)
		expectCheck(t, f, "", api.ErrFieldText)
		if least > 1 {
			expectCheck(t, f, textOf(rnd, f.Kind, least-1), api.ErrFieldText)
		}
		for _, more := range []int{1, 2, 64, 256, 1000, 1 << 16} {
			expectCheck(t, f, textOf(rnd, f.Kind, most+more), api.ErrFieldText)
		}
	}
}

// P4.1: each byte in each place.
func TestCharactersOfTexts(t *testing.T) {
	rnd := rand.New(rand.NewSource(3))
	for _, f := range forms(5) {
		first, others := sorts(f.Kind)
		text := rightText(rnd, f)
		for at := range len(text) {
			may := others
			if at == 0 {
				may = first
			}
			for c := range 256 {
				want := api.ErrFieldText
				if strings.IndexByte(may, byte(c)) >= 0 {
					want = api.OK
				}
				expectCheck(t, f, text[:at]+string([]byte{byte(c)})+text[at+1:], want)
			}
		}
	}
}

// P4.1: digits and letters that are none of those that the chapter names; signs and blanks about digits.
func TestWrongTexts(t *testing.T) {
	for _, x := range []struct {
		kind, size int
		text       string
	}{
		{nn, 3, "+12"}, {nn, 3, "-12"}, {nn, 3, " 12"}, {nn, 3, "12 "}, {nn, 3, "1_2"}, {nn, 3, "0x1"}, {nn, 3, "1.2"}, {nn, 3, "12\x00"}, {nn, 3, "١٢٣"}, {nn, 6, "١٢٣"}, {nn, 3, "\uff11"},
		{ll, 5, "1 2"}, {ll, 5, "a"}, {ll, 5, "\xff"}, {ll, 5, "-1"},
		{an, 3, "abc"}, {an, 3, "A-B"}, {an, 3, "A\tB"}, {an, 3, "A\u00a0"}, {an, 2, "\u00c4"}, {an, 3, "A_B"}, {an, 3, "A\nB"},
		{bb, 1, "A0"}, {bb, 1, "0F"}, {bb, 1, "g0"}, {bb, 1, "0`"}, {bb, 1, "a"}, {bb, 2, "a0"}, {bb, 1, "a0ff"}, {bb, 2, "a0f"}, {bb, 1, "0x"},
		{xx, 2, "005"}, {xx, 2, "c05"}, {xx, 2, "E05"}, {xx, 2, "05"}, {xx, 2, "D5"}, {xx, 2, "D0D"}, {xx, 2, "05D"}, {xx, 2, "CD05"}, {xx, 1, "C"}, {xx, 1, "CC"},
	} {
		for _, c := range codes() {
			f := api.Form{Kind: x.kind, Size: x.size, Code: c}
			expectCheck(t, f, x.text, api.ErrFieldText)
			if b, e := Put([]byte("x"), f, x.text); len(b) != 0 || e != api.ErrFieldText {
				t.Errorf("Put(%v, %q): %x %v", f, x.text, b, e)
			}
		}
	}
}

// P4.2
func TestPutOfKnownTexts(t *testing.T) {
	for _, x := range []struct {
		f          api.Form
		text, want string
	}{
		{api.Form{Kind: nn, Size: 3, Code: ascii}, "123", "123"},
		{api.Form{Kind: nn, Size: 3, Code: bcd}, "123", "\x01\x23"},
		{api.Form{Kind: nn, Size: 4, Code: bcd}, "9870", "\x98\x70"},
		{api.Form{Kind: nn, Size: 1, Code: bcd}, "9", "\x09"},
		{api.Form{Kind: nn, Size: 3, Code: ebc}, "109", "\xf1\xf0\xf9"},
		{api.Form{Kind: ll, Size: 19, Code: bcd}, "4567", "\x04\x45\x67"},
		{api.Form{Kind: ll, Size: 19, Code: bcd}, "456", "\x03\x04\x56"},
		{api.Form{Kind: ll, Size: 5, Code: ascii}, "7", "017"},
		{api.Form{Kind: ll, Size: 19, Code: ebc}, "4567", "\xf0\xf4\xf4\xf5\xf6\xf7"},
		{api.Form{Kind: ll, Size: 19, Code: ascii}, "1234567890123456789", "191234567890123456789"},
		{api.Form{Kind: ll, Size: 64, Code: bcd}, strings.Repeat("12", 32), "\x64" + strings.Repeat("\x12", 32)},
		{api.Form{Kind: an, Size: 3, Code: ebc}, "A 9", "\xc1\x40\xf9"},
		{api.Form{Kind: an, Size: 3, Code: bcd}, "A 9", "A 9"},
		{api.Form{Kind: an, Size: 3, Code: ascii}, "A 9", "A 9"},
		{api.Form{Kind: an, Size: 6, Code: ebc}, "IJRSZ0", "\xc9\xd1\xd9\xe2\xe9\xf0"},
		{api.Form{Kind: xx, Size: 2, Code: bcd}, "D05", "D\x05"},
		{api.Form{Kind: xx, Size: 3, Code: bcd}, "C105", "C\x01\x05"},
		{api.Form{Kind: xx, Size: 2, Code: ascii}, "C05", "C05"},
		{api.Form{Kind: xx, Size: 2, Code: ebc}, "C05", "\xc3\xf0\xf5"},
		{api.Form{Kind: xx, Size: 2, Code: ebc}, "D90", "\xc4\xf9\xf0"},
		{api.Form{Kind: bb, Size: 2, Code: ascii}, "a0ff", "A0FF"},
		{api.Form{Kind: bb, Size: 2, Code: bcd}, "a0ff", "\xa0\xff"},
		{api.Form{Kind: bb, Size: 2, Code: ebc}, "0b9c", "\x0b\x9c"},
	} {
		for _, ahead := range []string{"", "x", "\x00\xff"} {
			if b, e := Put([]byte(ahead), x.f, x.text); string(b) != ahead+x.want || e != api.OK {
				t.Errorf("Put(%x, %v, %q): %x %v, want %x behind", ahead, x.f, x.text, b, e, x.want)
			}
		}
	}
}

// P4.2: each length of each form, and each character.
func TestPutIsThatOfThePromise(t *testing.T) {
	rnd := rand.New(rand.NewSource(4))
	expect := func(f api.Form, text string) {
		t.Helper()
		if b, e := Put(nil, f, text); !bytes.Equal(b, plainPut(f, text)) || e != api.OK {
			t.Errorf("Put(%v, %q): %x %v, want %x", f, text, b, e, plainPut(f, text))
		}
	}
	for _, f := range forms(64) {
		least, most := lengths(f)
		for length := least; length <= most; length++ {
			expect(f, textOf(rnd, f.Kind, length))
		}
	}
	for _, f := range forms(2) {
		least, most := lengths(f)
		for length := least; length <= most && length <= 3; length++ {
			for _, text := range allTexts(f.Kind, length) {
				expect(f, text)
			}
		}
	}
}

// P4.2: a form that may not be is told ahead of a wrong text, and with an error there are no bytes.
func TestPutThatIsRefused(t *testing.T) {
	for _, f := range wrongForms() {
		for _, text := range []string{"", "0", "123", "\xff"} {
			if b, e := Put([]byte("x"), f, text); len(b) != 0 || e != api.ErrFieldForm {
				t.Errorf("Put(%v, %q): %x %v", f, text, b, e)
			}
		}
	}
	for _, f := range forms(64) {
		for _, text := range []string{"", strings.Repeat("0", 130), "\xff"} {
			if b, e := Put([]byte("x"), f, text); len(b) != 0 || e != api.ErrFieldText {
				t.Errorf("Put(%v, %q): %x %v", f, text, b, e)
			}
		}
	}
}

// P4.2, R6: the bytes ahead are left, the room behind them too, and the answer has memory of its own.
func TestPutLeavesItsBytes(t *testing.T) {
	rnd := rand.New(rand.NewSource(5))
	for _, f := range forms(8) {
		text := rightText(rnd, f)
		room := bytes.Repeat([]byte{7}, 200)
		b, e := Put(room[:3], f, text)
		if want := append([]byte{7, 7, 7}, plainPut(f, text)...); !bytes.Equal(b, want) || e != api.OK {
			t.Fatalf("Put(%v, %q): %x %v, want %x", f, text, b, e, want)
		}
		if !bytes.Equal(room, bytes.Repeat([]byte{7}, 200)) {
			t.Errorf("Put(%v, %q): what was handed in was changed", f, text)
		}
		for i := range b[:cap(b)] {
			b[:cap(b)][i] = 9
		}
		if !bytes.Equal(room, bytes.Repeat([]byte{7}, 200)) {
			t.Errorf("Put(%v, %q): the answer shares memory", f, text)
		}
	}
}

func expectTake(t *testing.T, b []byte, f api.Form, text, rest string, want api.Errno) {
	t.Helper()
	was := bytes.Clone(b)
	s, r, e := Take(b, f)
	if s != text || string(r) != rest || e != want {
		t.Errorf("Take(%x, %v): %q %x %v, want %q %x %v", was, f, s, r, e, text, rest, want)
	}
	if !bytes.Equal(b, was) {
		t.Errorf("Take(%x, %v): the bytes were changed", was, f)
	}
}

func expectNoTake(t *testing.T, b string, f api.Form, want api.Errno) {
	t.Helper()
	expectTake(t, []byte(b), f, "", "", want)
}

// P4.3
func TestTakeOfAFormThatMayNotBe(t *testing.T) {
	for _, f := range wrongForms() {
		for _, b := range []string{"", "0", "123456", "\xff\xff", "01" + strings.Repeat("1", 300)} {
			expectNoTake(t, b, f, api.ErrFieldForm)
		}
	}
}

// P4.3
func TestTakeOfKnownBytes(t *testing.T) {
	for _, x := range []struct {
		b          string
		f          api.Form
		text, rest string
	}{
		{"123", api.Form{Kind: nn, Size: 3, Code: ascii}, "123", ""},
		{"123", api.Form{Kind: nn, Size: 2, Code: ascii}, "12", "3"},
		{"\x01\x23", api.Form{Kind: nn, Size: 3, Code: bcd}, "123", ""},
		{"\x01\x23\x45", api.Form{Kind: nn, Size: 4, Code: bcd}, "0123", "\x45"},
		{"\xf1\xf2\x00", api.Form{Kind: nn, Size: 2, Code: ebc}, "12", "\x00"},
		{"\x04\x45\x67\x89", api.Form{Kind: ll, Size: 19, Code: bcd}, "4567", "\x89"},
		{"\x03\x04\x56", api.Form{Kind: ll, Size: 3, Code: bcd}, "456", ""},
		{"0212345", api.Form{Kind: ll, Size: 2, Code: ascii}, "12", "345"},
		{"\xf0\xf2\xf1\xf2\xf3", api.Form{Kind: ll, Size: 9, Code: ebc}, "12", "\xf3"},
		{"\x64" + strings.Repeat("\x12", 33), api.Form{Kind: ll, Size: 64, Code: bcd}, strings.Repeat("12", 32), "\x12"},
		{"A 9 ", api.Form{Kind: an, Size: 3, Code: bcd}, "A 9", " "},
		{"\xc1\x40\xf9", api.Form{Kind: an, Size: 3, Code: ebc}, "A 9", ""},
		{"D\x05", api.Form{Kind: xx, Size: 2, Code: bcd}, "D05", ""},
		{"C\x01\x05\x06", api.Form{Kind: xx, Size: 3, Code: bcd}, "C105", "\x06"},
		{"\xc4\xf0\xf5", api.Form{Kind: xx, Size: 2, Code: ebc}, "D05", ""},
		{"A0FFa", api.Form{Kind: bb, Size: 2, Code: ascii}, "a0ff", "a"},
		{"\xa0\xff\x00", api.Form{Kind: bb, Size: 2, Code: ebc}, "a0ff", "\x00"},
		{"\xa0\xff", api.Form{Kind: bb, Size: 2, Code: bcd}, "a0ff", ""},
	} {
		expectTake(t, []byte(x.b), x.f, x.text, x.rest, api.OK)
	}
}

// P4.3
func TestTakeOfWrongBytes(t *testing.T) {
	for _, x := range []struct {
		b    string
		f    api.Form
		want api.Errno
	}{
		{"\x11\x23", api.Form{Kind: nn, Size: 3, Code: bcd}, api.ErrFieldBytes}, // no nought ahead
		{"\x01\x2a", api.Form{Kind: nn, Size: 3, Code: bcd}, api.ErrFieldBytes},
		{"\xa1\x23", api.Form{Kind: nn, Size: 4, Code: bcd}, api.ErrFieldBytes},
		{"12", api.Form{Kind: nn, Size: 2, Code: ebc}, api.ErrFieldBytes},
		{"\xf1\xf2", api.Form{Kind: nn, Size: 2, Code: ascii}, api.ErrFieldBytes},
		{"+1", api.Form{Kind: nn, Size: 2, Code: ascii}, api.ErrFieldBytes},
		{"x", api.Form{Kind: nn, Size: 2, Code: ascii}, api.ErrFieldShort}, // short and wrong: short
		{"\xff", api.Form{Kind: nn, Size: 3, Code: bcd}, api.ErrFieldShort},

		{"", api.Form{Kind: ll, Size: 19, Code: bcd}, api.ErrFieldShort},
		{"\x00", api.Form{Kind: ll, Size: 19, Code: bcd}, api.ErrFieldBytes},
		{"\x20", api.Form{Kind: ll, Size: 19, Code: bcd}, api.ErrFieldBytes}, // the number is asked ahead of the length
		{"\x0a", api.Form{Kind: ll, Size: 19, Code: bcd}, api.ErrFieldBytes},
		{"\xa0", api.Form{Kind: ll, Size: 19, Code: bcd}, api.ErrFieldBytes},
		{"\x19", api.Form{Kind: ll, Size: 19, Code: bcd}, api.ErrFieldShort},
		{"\x04\x45", api.Form{Kind: ll, Size: 19, Code: bcd}, api.ErrFieldShort},
		{"\x04\xff", api.Form{Kind: ll, Size: 19, Code: bcd}, api.ErrFieldShort},
		{"\x03\x14\x56", api.Form{Kind: ll, Size: 19, Code: bcd}, api.ErrFieldBytes},
		{"\x65" + strings.Repeat("\x11", 99), api.Form{Kind: ll, Size: 64, Code: bcd}, api.ErrFieldBytes},
		{"0", api.Form{Kind: ll, Size: 5, Code: ascii}, api.ErrFieldShort},
		{"x", api.Form{Kind: ll, Size: 5, Code: ascii}, api.ErrFieldShort}, // the number ends behind b
		{"x1", api.Form{Kind: ll, Size: 5, Code: ascii}, api.ErrFieldBytes},
		{"1x", api.Form{Kind: ll, Size: 5, Code: ascii}, api.ErrFieldBytes},
		{"+1", api.Form{Kind: ll, Size: 5, Code: ascii}, api.ErrFieldBytes},
		{" 1", api.Form{Kind: ll, Size: 5, Code: ascii}, api.ErrFieldBytes},
		{"-11", api.Form{Kind: ll, Size: 5, Code: ascii}, api.ErrFieldBytes},
		{"001", api.Form{Kind: ll, Size: 5, Code: ascii}, api.ErrFieldBytes},
		{"06123456", api.Form{Kind: ll, Size: 5, Code: ascii}, api.ErrFieldBytes},
		{"051234", api.Form{Kind: ll, Size: 5, Code: ascii}, api.ErrFieldShort},
		{"05123x5", api.Form{Kind: ll, Size: 5, Code: ascii}, api.ErrFieldBytes},
		{"05123x", api.Form{Kind: ll, Size: 5, Code: ascii}, api.ErrFieldShort},
		{"\xf0", api.Form{Kind: ll, Size: 5, Code: ebc}, api.ErrFieldShort},
		{"01", api.Form{Kind: ll, Size: 5, Code: ebc}, api.ErrFieldBytes},

		{"a", api.Form{Kind: an, Size: 1, Code: ascii}, api.ErrFieldBytes},
		{"\xc1", api.Form{Kind: an, Size: 1, Code: bcd}, api.ErrFieldBytes},
		{"A", api.Form{Kind: an, Size: 1, Code: ebc}, api.ErrFieldBytes},
		{"\x81", api.Form{Kind: an, Size: 1, Code: ebc}, api.ErrFieldBytes}, // a small letter
		{"\xca", api.Form{Kind: an, Size: 1, Code: ebc}, api.ErrFieldBytes}, // behind I
		{"\xe1", api.Form{Kind: an, Size: 1, Code: ebc}, api.ErrFieldBytes}, // ahead of S
		{"\x20", api.Form{Kind: an, Size: 1, Code: ebc}, api.ErrFieldBytes},

		{"", api.Form{Kind: xx, Size: 2, Code: bcd}, api.ErrFieldShort},
		{"D", api.Form{Kind: xx, Size: 2, Code: bcd}, api.ErrFieldShort},
		{"E", api.Form{Kind: xx, Size: 2, Code: bcd}, api.ErrFieldShort},
		{"E\x05", api.Form{Kind: xx, Size: 2, Code: bcd}, api.ErrFieldBytes},
		{"\xc3\x05", api.Form{Kind: xx, Size: 2, Code: bcd}, api.ErrFieldBytes},
		{"C\x11", api.Form{Kind: xx, Size: 1, Code: bcd}, api.ErrFieldBytes},
		{"C\xf0\xf5", api.Form{Kind: xx, Size: 2, Code: ebc}, api.ErrFieldBytes},
		{"\xc5\xf0\xf5", api.Form{Kind: xx, Size: 2, Code: ebc}, api.ErrFieldBytes},
		{"C0D", api.Form{Kind: xx, Size: 2, Code: ascii}, api.ErrFieldBytes},

		{"a", api.Form{Kind: bb, Size: 1, Code: ascii}, api.ErrFieldShort},
		{"a0", api.Form{Kind: bb, Size: 1, Code: ascii}, api.ErrFieldBytes},
		{"0f", api.Form{Kind: bb, Size: 1, Code: ascii}, api.ErrFieldBytes},
		{"G0", api.Form{Kind: bb, Size: 1, Code: ascii}, api.ErrFieldBytes},
		{"\xa0", api.Form{Kind: bb, Size: 2, Code: bcd}, api.ErrFieldShort},
		{"", api.Form{Kind: bb, Size: 1, Code: ebc}, api.ErrFieldShort},
	} {
		expectNoTake(t, x.b, x.f, x.want)
	}
}

// P4.3: bytes that end too early, right or wrong ones; of KindLL once the number is there.
func TestTakeOfShortBytes(t *testing.T) {
	rnd := rand.New(rand.NewSource(6))
	for _, f := range forms(64) {
		text := rightText(rnd, f)
		whole := plainPut(f, text)
		number := 0
		if f.Kind == ll {
			number = len(plainDigits("00", f.Code))
		}
		for end := range len(whole) {
			expectNoTake(t, string(whole[:end]), f, api.ErrFieldShort)
			if end > number {
				wrong := bytes.Clone(whole[:end])
				for i := number; i < end; i++ {
					wrong[i] = 0xaf
				}
				expectNoTake(t, string(wrong), f, api.ErrFieldShort)
			}
		}
		expectTake(t, whole, f, text, "", api.OK)
	}
}

// P4.3: all bytes of one, two and, of KindLL and KindX with CodeBcd, three: just those are taken that a right text has.
func TestTakeOfAllBytes(t *testing.T) {
	for _, f := range forms(2) {
		for _, size := range []int{1, 2} {
			takeAll(t, f, nil, size)
		}
	}
	for _, size := range []int{3, 4} {
		takeAll(t, api.Form{Kind: ll, Size: size, Code: bcd}, []byte{byte(size)}, 2)
		takeAll(t, api.Form{Kind: xx, Size: size, Code: bcd}, []byte{'D'}, 2)
	}
}

// takeAll takes each of the bytes of that size that stand behind others, and holds what is told against all right texts' bytes.
func takeAll(t *testing.T, f api.Form, ahead []byte, size int) {
	t.Helper()
	texts := map[string]string{}
	least, most := lengths(f)
	for length := least; length <= most; length++ {
		for _, text := range allTexts(f.Kind, length) {
			texts[string(plainPut(f, text))] = text
		}
	}
	for i := range 1 << (8 * size) {
		b := bytes.Clone(ahead)
		for j := range size {
			b = append(b, byte(i>>(8*j)))
		}
		text, rest, e := Take(b, f)
		front := b[:len(b)-len(rest)]
		want, ok := texts[string(front)]
		switch {
		case e == api.OK && (!ok || text != want || !bytes.Equal(rest, b[len(front):])):
			t.Errorf("Take(%x, %v): %q %x", b, f, text, rest)
		case e != api.OK && (text != "" || len(rest) != 0 || startsOne(texts, b)):
			t.Errorf("Take(%x, %v): %q %x %v", b, f, text, rest, e)
		}
	}
}

func startsOne(texts map[string]string, b []byte) bool {
	for end := range len(b) + 1 {
		if _, ok := texts[string(b[:end])]; ok {
			return true
		}
	}
	return false
}

// P4.3: each byte in each place of a longer text's.
func TestTakeOfEachByte(t *testing.T) {
	rnd := rand.New(rand.NewSource(7))
	for _, f := range forms(7) {
		text := rightText(rnd, f)
		whole := plainPut(f, text)
		for at := range whole {
			for x := range 256 {
				b := bytes.Clone(whole)
				b[at] = byte(x)
				text, rest, e := Take(b, f)
				if e == api.OK {
					if Check(f, text) != api.OK || !bytes.Equal(append(plainPut(f, text), rest...), b) {
						t.Errorf("Take(%x, %v): %q %x", b, f, text, rest)
					}
				} else if text != "" || len(rest) != 0 {
					t.Errorf("Take(%x, %v): %q %x %v", b, f, text, rest, e)
				}
				if want := plainPlace(f, at, byte(x)); f.Kind != ll && (e == api.OK) != want {
					t.Errorf("Take(%x, %v): %v", b, f, e)
				}
			}
		}
	}
}

// plainPlace tells whether a byte may stand in that place of a text's bytes, KindLL left out.
func plainPlace(f api.Form, at int, x byte) bool {
	first, others := sorts(f.Kind)
	digits := f.Kind == nn || f.Kind == xx && at > 0
	switch {
	case f.Kind == bb && f.Code != ascii:
		return true
	case f.Kind == bb:
		return strings.IndexByte("0123456789ABCDEF", x) >= 0
	case digits && f.Code == bcd:
		odd := f.Size%2 == 1 && (f.Kind == nn && at == 0 || f.Kind == xx && at == 1)
		return x>>4 <= 9 && x&15 <= 9 && (!odd || x>>4 == 0)
	case at == 0:
		return bytes.IndexByte(plainBytes(first, f.Code), x) >= 0
	}
	return bytes.IndexByte(plainBytes(others, f.Code), x) >= 0
}

// P4.3: the number ahead: all of them, with all that they ask behind them.
func TestNumbersAhead(t *testing.T) {
	for _, f := range forms(64) {
		if f.Kind != ll {
			continue
		}
		for number := range 100 {
			b := plainDigits(strconv.Itoa(number + 100)[1:], f.Code)
			want := strings.Repeat("7", number)
			b = append(b, plainDigits(want, f.Code)...)
			if number >= 1 && number <= f.Size {
				expectTake(t, append(bytes.Clone(b), 'y'), f, want, "y", api.OK)
				expectNoTake(t, string(b[:len(b)-1]), f, api.ErrFieldShort)
			} else {
				expectNoTake(t, string(b)+"y", f, api.ErrFieldBytes)
			}
		}
	}
}

// P4.3, R6: what is left is the caller's own memory.
func TestTakeSharesNothing(t *testing.T) {
	rnd := rand.New(rand.NewSource(8))
	for _, f := range forms(8) {
		text := rightText(rnd, f)
		front := plainPut(f, text)
		room := append(bytes.Clone(front), 1, 2, 3, 4, 5, 6, 7, 8, 9, 10)
		was := bytes.Clone(room)
		end := len(front) + 4
		s, rest, e := Take(room[:end], f)
		if s != text || !bytes.Equal(rest, []byte{1, 2, 3, 4}) || e != api.OK {
			t.Fatalf("Take(%x, %v): %q %x %v", room[:end], f, s, rest, e)
		}
		for i := range rest[:cap(rest)] {
			rest[:cap(rest)][i] = 99
		}
		if !bytes.Equal(room, was) {
			t.Errorf("Take(%x, %v): what is left shares memory", was[:end], f)
		}
		for i := range room {
			room[i] = 77
		}
		if s != text {
			t.Errorf("Take(%x, %v): the text shares memory", was[:end], f)
		}
	}
}

// P4.4: all months and days, right or not.
func TestWhenOfAllDays(t *testing.T) {
	days := []int{31, 29, 31, 30, 31, 30, 31, 31, 30, 31, 30, 31}
	for i := range 10000 {
		month, day := i/100, i%100
		want := month >= 1 && month <= 12 && day >= 1 && day <= days[month-1]
		for _, hour := range []string{"000000", "235959", "123456"} {
			if text := strconv.Itoa(i + 10000)[1:] + hour; When(text) != want {
				t.Errorf("When(%s): %t", text, !want)
			}
		}
	}
}

// P4.4: all hours, minutes and seconds, right or not.
func TestWhenOfAllTimes(t *testing.T) {
	for i := range 1000000 {
		text := "0229" + strconv.Itoa(i + 1000000)[1:]
		want := i/10000 <= 23 && i/100%100 <= 59 && i%100 <= 59
		if When(text) != want {
			t.Errorf("When(%s): %t", text, !want)
		}
	}
}

// P4.4
func TestWhenOfWhatAreNoDigits(t *testing.T) {
	const whole = "0229235959"
	if !When(whole) || When("0230000000") || When("0101240000") {
		t.Error("the chapter's examples")
	}
	for length := range 40 {
		text := strings.Repeat("0101010101", 4)[:length]
		if When(text) != (length == 10) {
			t.Errorf("When(%s)", text)
		}
	}
	for at := range len(whole) {
		for x := range 256 {
			text := whole[:at] + string([]byte{byte(x)}) + whole[at+1:]
			if (x < '0' || x > '9') && When(text) {
				t.Errorf("When(%q)", text)
			}
		}
	}
	for _, text := range []string{"", "+229235959", " 229235959", "02292359 9", "0229235959\x00", "\x000229235959", "022923595\uff19", "٠١٠١٠"} {
		if When(text) {
			t.Errorf("When(%q)", text)
		}
	}
}

// P4.5
func TestAmount(t *testing.T) {
	for _, x := range []struct {
		text string
		want int
	}{
		{"0", 0}, {"000000000000000000", 0}, {"000000000100", 100}, {"7", 7}, {"08", 8}, {"999999999999", api.MaxAmount},
		{"999999999999999999", 999999999999999999}, {"100000000000000000", 100000000000000000}, {"000000000000000001", 1},
	} {
		if v, e := Amount(x.text); v != x.want || e != api.OK {
			t.Errorf("Amount(%q): %d %v, want %d", x.text, v, e, x.want)
		}
	}
	for _, text := range []string{
		"", " ", "+1", "-1", "1 ", " 1", "1_0", "0x10", "1.0", "1e3", "a", "٣", "\xff", "1\x00", "-", "+",
		"0000000000000000000", "0000000000000000001", "1234567890123456789", "9223372036854775807", "9223372036854775808", strings.Repeat("0", 1<<16), strings.Repeat("9", 1000),
	} {
		if v, e := Amount(text); v != 0 || e != api.ErrFieldText {
			t.Errorf("Amount(%.40q): %d %v", text, v, e)
		}
	}
}

// P4.5: each byte in each place.
func TestAmountOfEachByte(t *testing.T) {
	for length := 1; length <= 18; length++ {
		whole := strings.Repeat("4", length)
		for at := range length {
			for x := range 256 {
				text := whole[:at] + string([]byte{byte(x)}) + whole[at+1:]
				want, err := strconv.ParseUint(text, 10, 64)
				if v, e := Amount(text); (e == api.OK) != (err == nil) || v != int(want) || e != api.OK && e != api.ErrFieldText {
					t.Errorf("Amount(%q): %d %v", text, v, e)
				}
			}
		}
	}
}

// P4.5
func TestDigits(t *testing.T) {
	for _, x := range []struct {
		n, size int
		want    string
		e       api.Errno
	}{
		{5, 3, "005", api.OK}, {0, 1, "0", api.OK}, {0, 18, "000000000000000000", api.OK}, {999, 3, "999", api.OK}, {9, 1, "9", api.OK}, {api.MaxAmount, 12, "999999999999", api.OK}, {999999999999999999, 18, "999999999999999999", api.OK},
		{1000, 3, "", api.ErrFieldText}, {10, 1, "", api.ErrFieldText}, {-1, 3, "", api.ErrFieldText}, {-1, 1, "", api.ErrFieldText}, {-1, 2, "", api.ErrFieldText}, {math.MinInt, 18, "", api.ErrFieldText}, {1000000000000000000, 18, "", api.ErrFieldText}, {math.MaxInt, 18, "", api.ErrFieldText},
		{5, 0, "", api.ErrFieldForm}, {5, 19, "", api.ErrFieldForm}, {5, -1, "", api.ErrFieldForm}, {math.MaxInt, 19, "", api.ErrFieldForm}, {5, math.MaxInt, "", api.ErrFieldForm}, {5, math.MinInt, "", api.ErrFieldForm}, {-1, 0, "", api.ErrFieldForm}, {-1, 19, "", api.ErrFieldForm}, {100, 0, "", api.ErrFieldForm},
	} {
		if s, e := Digits(x.n, x.size); s != x.want || e != x.e {
			t.Errorf("Digits(%d, %d): %q %v, want %q %v", x.n, x.size, s, e, x.want, x.e)
		}
	}
}

// P4.5: each size at the edge of what it holds, and what Digits tells is what Amount takes.
func TestDigitsAtTheEdges(t *testing.T) {
	rnd := rand.New(rand.NewSource(9))
	edge := 1
	for size := 1; size <= 18; size++ {
		edge *= 10
		for _, v := range []int{0, 1, edge / 10, edge - 1, rnd.Intn(edge), rnd.Intn(edge)} {
			s, e := Digits(v, size)
			back, e2 := Amount(s)
			if len(s) != size || e != api.OK || back != v || e2 != api.OK {
				t.Errorf("Digits(%d, %d): %q %v, and back %d %v", v, size, s, e, back, e2)
			}
		}
		for _, v := range []int{edge, edge + 1, math.MaxInt} {
			if s, e := Digits(v, size); s != "" || e != api.ErrFieldText {
				t.Errorf("Digits(%d, %d): %q %v", v, size, s, e)
			}
		}
	}
}

// P4.6: what was put is taken, whatever stands behind it; fields behind one another too.
func TestPutIsTaken(t *testing.T) {
	rnd := rand.New(rand.NewSource(10))
	for _, f := range forms(64) {
		for range 5 {
			text := rightText(rnd, f)
			b, e := Put(nil, f, text)
			if e != api.OK {
				t.Fatalf("Put(%v, %q): %v", f, text, e)
			}
			behind := make([]byte, rnd.Intn(5))
			rnd.Read(behind)
			expectTake(t, append(b, behind...), f, text, string(behind), api.OK)
			if more, e := Put(behind, f, text); !bytes.Equal(more, slices.Concat(behind, b)) || e != api.OK {
				t.Errorf("Put(%x, %v, %q): %x %v", behind, f, text, more, e)
			}
		}
	}
}

// P4.6: many fields behind one another.
func TestManyFields(t *testing.T) {
	rnd := rand.New(rand.NewSource(11))
	for range 200 {
		var b []byte
		var l []api.Form
		var texts []string
		for range 20 {
			f := api.Form{Kind: rnd.Intn(5) + 1, Size: rnd.Intn(64) + 1, Code: rnd.Intn(3) + 1}
			l, texts = append(l, f), append(texts, rightText(rnd, f))
			b, _ = Put(b, f, texts[len(texts)-1])
		}
		for i, f := range l {
			text, rest, e := Take(b, f)
			if text != texts[i] || e != api.OK {
				t.Fatalf("Take(%x, %v): %q %v, want %q", b, f, text, e, texts[i])
			}
			b = rest
		}
		if len(b) != 0 {
			t.Errorf("%x are left", b)
		}
	}
}

// P4.6: bytes by chance: what is taken of them, and put, is what they were.
func TestTakenIsPut(t *testing.T) {
	rnd := rand.New(rand.NewSource(12))
	pool := []byte("0123456789ABCDEFabcdef CDXZ\x00\x01\x04\x10\x19\x64\x99\xc1\xc3\xc4\xd9\xe9\xf0\xf1\xf9\xfa\x40")
	taken := 0
	for range 300000 {
		f := api.Form{Kind: rnd.Intn(5) + 1, Size: rnd.Intn(4) + 1, Code: rnd.Intn(3) + 1}
		b := make([]byte, rnd.Intn(10))
		for i := range b {
			b[i] = pool[rnd.Intn(len(pool))]
		}
		text, rest, e := Take(b, f)
		if e != api.OK {
			continue
		}
		taken++
		if back, e := Put(nil, f, text); !bytes.Equal(append(back, rest...), b) || e != api.OK || Check(f, text) != api.OK {
			t.Errorf("Take(%x, %v): %q %x, and back %x %v", b, f, text, rest, back, e)
		}
	}
	if taken < 10000 {
		t.Errorf("only %d were taken", taken)
	}
}

// R1: all arguments, by chance; nothing panics, and with an error all else is nothing.
func TestAllArguments(t *testing.T) {
	rnd := rand.New(rand.NewSource(13))
	number := func() int {
		if rnd.Intn(4) == 0 {
			return int(rnd.Uint64()) >> rnd.Intn(64)
		}
		return rnd.Intn(9) - 1
	}
	for range 200000 {
		f := api.Form{Kind: number(), Size: number(), Code: number()}
		b := make([]byte, rnd.Intn(12))
		rnd.Read(b)
		text := string(b)
		e := Check(f, text)
		if put, e2 := Put(nil, f, text); e2 != e || e != api.OK && len(put) != 0 {
			t.Errorf("Put(%v, %q): %x %v, Check: %v", f, text, put, e2, e)
		}
		if s, rest, e := Take(b, f); e != api.OK && (s != "" || len(rest) != 0) {
			t.Errorf("Take(%x, %v): %q %x %v", b, f, s, rest, e)
		}
		When(text)
		Amount(text)
		Digits(number(), number())
	}
}
