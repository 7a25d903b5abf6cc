package money

import (
	"math"
	"math/big"
	"math/rand"
	"testing"

	"groat/api"
)

const most = api.MaxAmount

// edges are numbers about which sums pass what there is, or just do not.
func edges() []int {
	var l []int
	for _, n := range []int{0, 1 << 31, 1 << 32, most, 1 << 62, 1<<62 + 1<<61} {
		for d := -2; d <= 2; d++ {
			l = append(l, n+d, -n+d)
		}
	}
	for d := range 4 {
		l = append(l, math.MaxInt-d, math.MinInt+d)
	}
	return l
}

// anyNumber is one that chance chooses, of any length in bits, or an edge.
func anyNumber(rnd *rand.Rand) int {
	if l := edges(); rnd.Intn(4) == 0 {
		return l[rnd.Intn(len(l))]
	}
	return int(rnd.Uint64()) >> rnd.Intn(64)
}

// checked is a number of any length, as Add and Sub are to answer it.
func checked(n *big.Int) (int, api.Errno) {
	if !n.IsInt64() {
		return 0, api.ErrMoney
	}
	return int(n.Int64()), api.OK
}

func large(n int) *big.Int { return big.NewInt(int64(n)) }

// expectSums holds Add and Sub of a and b against numbers of any length.
func expectSums(t *testing.T, a, b int) {
	t.Helper()
	want, code := checked(new(big.Int).Add(large(a), large(b)))
	if n, e := Add(a, b); n != want || e != code {
		t.Errorf("Add(%d, %d): %d %v, want %d %v", a, b, n, e, want, code)
	}
	want, code = checked(new(big.Int).Sub(large(a), large(b)))
	if n, e := Sub(a, b); n != want || e != code {
		t.Errorf("Sub(%d, %d): %d %v, want %d %v", a, b, n, e, want, code)
	}
}

// rates are such as may be, with each edge beside each other one.
func rates() []api.Rate {
	var l []api.Rate
	for _, parts := range []int{0, 1, 2, 50, 3333, 4999, 5000, 5001, 9999, 10000} {
		for _, least := range []int{0, 1, 2, 7, 1000, most - 1, most} {
			for _, greatest := range []int{0, 1, 2, 7, 100, 1000, most - 1, most} {
				if least <= greatest {
					l = append(l, api.Rate{Parts: parts, Least: least, Most: greatest})
				}
			}
		}
	}
	return l
}

// wrongRates may not be, each for one reason or for several.
func wrongRates() []api.Rate {
	var l []api.Rate
	for _, n := range []int{math.MinInt, math.MinInt32, -10000, -2, -1} {
		l = append(l, api.Rate{Parts: n, Most: 9}, api.Rate{Least: n, Most: 9}, api.Rate{Most: n}, api.Rate{Parts: n, Least: n, Most: n}, api.Rate{Least: n, Most: n})
	}
	for _, n := range []int{10001, 20000, 1 << 32, 1<<32 + 1, math.MaxInt} {
		l = append(l, api.Rate{Parts: n, Most: 9}, api.Rate{Parts: n, Least: 1})
	}
	for _, n := range []int{most + 1, 1 << 62, math.MaxInt} {
		l = append(l, api.Rate{Most: n}, api.Rate{Least: n, Most: n}, api.Rate{Least: n}, api.Rate{Least: n, Most: most}, api.Rate{Parts: n, Least: n, Most: n})
	}
	return append(l, api.Rate{Least: 1}, api.Rate{Parts: 1, Least: 5, Most: 4}, api.Rate{Least: most, Most: most - 1}, api.Rate{Parts: 10000, Least: most})
}

// amounts are such as may be: the small ones, those about a half, the great ones.
func amounts() []int {
	var l []int
	for n := range 40 {
		l = append(l, n, most-n)
	}
	for _, n := range []int{100, 300, 500, 700, 5000, 10000, 15000, 25000, 35000, 1 << 32, most / 2, most/2 + 1} {
		l = append(l, n-1, n, n+1)
	}
	return l
}

func wrongAmounts() []int {
	return []int{math.MinInt, math.MinInt + 1, -1 << 32, -most, -1, most + 1, 1 << 40, 1 << 62, math.MaxInt}
}

// plainShare finds the nearest whole number, and of two that are as near the even one, by how far each is from the share.
func plainShare(parts, amount int) int {
	product := new(big.Int).Mul(large(parts), large(amount))
	below := int(new(big.Int).Quo(product, large(10000)).Int64())
	far := func(n int) *big.Int {
		d := new(big.Int).Mul(large(n), large(10000))
		return d.Abs(d.Sub(d, product))
	}
	switch far(below).Cmp(far(below + 1)) {
	case -1:
		return below
	case 1:
		return below + 1
	}
	if below%2 == 0 {
		return below
	}
	return below + 1
}

// plainFee is a fee in the chapter's words.
func plainFee(r api.Rate, amount int) int {
	fee := plainShare(r.Parts, amount)
	if fee < r.Least {
		fee = r.Least
	}
	if fee > r.Most {
		fee = r.Most
	}
	if fee > amount {
		fee = amount
	}
	return fee
}

func expectFee(t *testing.T, r api.Rate, amount, want int) {
	t.Helper()
	if n, e := Fee(r, amount); n != want || e != api.OK {
		t.Errorf("Fee(%v, %d): %d %v, want %d", r, amount, n, e, want)
	}
}

// fee is one of a right rate and a right amount.
func fee(t *testing.T, r api.Rate, amount int) int {
	t.Helper()
	n, e := Fee(r, amount)
	if e != api.OK {
		t.Errorf("Fee(%v, %d): %v", r, amount, e)
	}
	return n
}

// anyRate is one that may be.
func anyRate(rnd *rand.Rand) api.Rate {
	r := api.Rate{Parts: rnd.Intn(10001), Most: anyAmount(rnd)}
	if rnd.Intn(2) == 0 {
		r.Least = rnd.Intn(r.Most + 1)
	}
	if rnd.Intn(3) == 0 {
		r.Parts = rnd.Intn(101)
	}
	return r
}

// anyAmount is one that may be, of any length in bits.
func anyAmount(rnd *rand.Rand) int { return rnd.Intn(most+1) >> rnd.Intn(40) }

// P10.1
func TestSumsOfTheExamples(t *testing.T) {
	const least, greatest = -1 << 63, 1<<63 - 1
	for _, x := range []struct {
		call func(a, b int) (int, api.Errno)
		name string
		a, b int
		want int
		code api.Errno
	}{
		{Add, "Add", greatest, 1, 0, api.ErrMoney},
		{Add, "Add", least, -1, 0, api.ErrMoney},
		{Add, "Add", least, least, 0, api.ErrMoney},
		{Add, "Add", greatest, greatest, 0, api.ErrMoney},
		{Add, "Add", least, greatest, -1, api.OK},
		{Add, "Add", greatest, least, -1, api.OK},
		{Add, "Add", least, 0, least, api.OK},
		{Add, "Add", greatest - 1, 1, greatest, api.OK},
		{Add, "Add", least + 1, -1, least, api.OK},
		{Add, "Add", 5, 7, 12, api.OK},
		{Add, "Add", 0, 0, 0, api.OK},
		{Sub, "Sub", least, 1, 0, api.ErrMoney},
		{Sub, "Sub", 0, least, 0, api.ErrMoney},
		{Sub, "Sub", 1, least, 0, api.ErrMoney},
		{Sub, "Sub", greatest, -1, 0, api.ErrMoney},
		{Sub, "Sub", greatest, least, 0, api.ErrMoney},
		{Sub, "Sub", -2, greatest, 0, api.ErrMoney},
		{Sub, "Sub", -1, greatest, least, api.OK},
		{Sub, "Sub", -1, least, greatest, api.OK},
		{Sub, "Sub", least, least, 0, api.OK},
		{Sub, "Sub", greatest, greatest, 0, api.OK},
		{Sub, "Sub", 5, 7, -2, api.OK},
		{Sub, "Sub", 0, 0, 0, api.OK},
	} {
		if n, e := x.call(x.a, x.b); n != x.want || e != x.code {
			t.Errorf("%s(%d, %d): %d %v, want %d %v", x.name, x.a, x.b, n, e, x.want, x.code)
		}
	}
}

// P10.1
func TestSumsOfEdges(t *testing.T) {
	for _, a := range edges() {
		for _, b := range edges() {
			expectSums(t, a, b)
		}
	}
}

// P10.1
func TestSumsByChance(t *testing.T) {
	rnd := rand.New(rand.NewSource(101))
	for range 200000 {
		expectSums(t, anyNumber(rnd), anyNumber(rnd))
	}
}

// P10.2
func TestCheck(t *testing.T) {
	for _, r := range rates() {
		if e := Check(r); e != api.OK {
			t.Errorf("Check(%v): %v", r, e)
		}
	}
	for _, r := range wrongRates() {
		if e := Check(r); e != api.ErrRate {
			t.Errorf("Check(%v): %v, want ErrRate", r, e)
		}
	}
	if e := Check(api.Rate{}); e != api.OK {
		t.Errorf("Check of no parts: %v", e)
	}
}

// P10.2: each number of parts, and all lower and upper bounds that are small, or about the greatest amount.
func TestCheckAboutItsBounds(t *testing.T) {
	for parts := -3; parts <= 10003; parts++ {
		want := api.ErrRate
		if parts >= 0 && parts <= 10000 {
			want = api.OK
		}
		if e := Check(api.Rate{Parts: parts, Least: 1, Most: 2}); e != want {
			t.Errorf("Check with %d parts: %v, want %v", parts, e, want)
		}
	}
	var bounds []int
	for d := -3; d <= 3; d++ {
		bounds = append(bounds, d, most+d)
	}
	for _, least := range bounds {
		for _, greatest := range bounds {
			want := api.ErrRate
			if least >= 0 && least <= greatest && greatest <= most {
				want = api.OK
			}
			if e := Check(api.Rate{Parts: 50, Least: least, Most: greatest}); e != want {
				t.Errorf("Check of at least %d, at most %d: %v, want %v", least, greatest, e, want)
			}
		}
	}
}

// P10.3
func TestFeesOfTheExamples(t *testing.T) {
	half := api.Rate{Parts: 50, Most: 100}
	least := api.Rate{Least: 7, Most: 100}
	whole := api.Rate{Parts: 10000, Most: most}
	for _, x := range []struct {
		r            api.Rate
		amount, want int
	}{
		{half, 10000, 50}, {half, 100, 0}, {half, 101, 1}, {half, 99, 0}, {half, 300, 2}, {half, 299, 1}, {half, 301, 2}, {half, 500, 2}, {half, 501, 3}, {half, 700, 4},
		{half, 20000, 100}, {half, 20100, 100}, {half, most, 100},
		{least, 10000, 7}, {least, 8, 7}, {least, 7, 7}, {least, 6, 6}, {least, 5, 5}, {least, 0, 0},
		{api.Rate{Parts: 10000, Most: 9}, 10000, 9},
		{whole, most, most}, {whole, 1, 1}, {whole, 0, 0},
		{api.Rate{Parts: 9999, Most: most}, most, 999899999999},
		{api.Rate{Parts: 5000, Most: most}, 1, 0}, {api.Rate{Parts: 5000, Most: most}, 3, 2}, {api.Rate{Parts: 5000, Most: most}, most, 500000000000},
		{api.Rate{Parts: 5000, Least: most, Most: most}, most, most}, {api.Rate{Parts: 5000, Least: most, Most: most}, most - 1, most - 1},
		{api.Rate{Parts: 10000}, most, 0}, {api.Rate{}, most, 0},
		{api.Rate{Parts: 100, Least: 5, Most: 5}, 10000, 5}, {api.Rate{Parts: 1, Least: 5, Most: 5}, 10000, 5},
	} {
		expectFee(t, x.r, x.amount, x.want)
	}
}

// P10.3
func TestFeesOfWrongThings(t *testing.T) {
	for _, r := range wrongRates() {
		for _, amount := range append(wrongAmounts(), 0, 1, 10000, most) {
			if n, e := Fee(r, amount); n != 0 || e != api.ErrRate {
				t.Errorf("Fee(%v, %d): %d %v, want ErrRate", r, amount, n, e)
			}
		}
	}
	for _, r := range rates() {
		for _, amount := range wrongAmounts() {
			if n, e := Fee(r, amount); n != 0 || e != api.ErrMoney {
				t.Errorf("Fee(%v, %d): %d %v, want ErrMoney", r, amount, n, e)
			}
		}
	}
}

// P10.3
func TestFeesOfEdges(t *testing.T) {
	for _, r := range rates() {
		for _, amount := range amounts() {
			expectFee(t, r, amount, plainFee(r, amount))
		}
	}
}

// P10.3: each number of parts, of amounts whose shares are halves, of an even and of an odd number, and what is just beside them.
func TestFeesAboutHalves(t *testing.T) {
	for parts := range 10001 {
		r := api.Rate{Parts: parts, Most: most}
		for _, amount := range []int{1, 3, 625, 1250, 5000, 15000, 25000, 35000, most - 4999, most - 14999} {
			for d := -1; d <= 1; d++ {
				expectFee(t, r, amount+d, plainFee(r, amount+d))
			}
		}
	}
}

// P10.3
func TestFeesByChance(t *testing.T) {
	rnd := rand.New(rand.NewSource(103))
	for range 200000 {
		r, amount := anyRate(rnd), anyAmount(rnd)
		expectFee(t, r, amount, plainFee(r, amount))
	}
}

// P10.4
func TestSumsHoldTogether(t *testing.T) {
	rnd := rand.New(rand.NewSource(104))
	undone, three := 0, 0
	for range 200000 {
		a, b, c := anyNumber(rnd), anyNumber(rnd), anyNumber(rnd)
		sum, e := Add(a, b)
		if other, f := Add(b, a); other != sum || f != e {
			t.Errorf("Add(%d, %d): %d %v; sides changed: %d %v", a, b, sum, e, other, f)
		}
		if e != api.OK {
			continue
		}
		undone++
		if n, f := Sub(sum, b); n != a || f != api.OK {
			t.Errorf("Add(%d, %d) and Sub of the second: %d %v", a, b, n, f)
		}
		behind, e := Add(b, c)
		if e != api.OK {
			continue
		}
		left, e := Add(sum, c)
		right, f := Add(a, behind)
		if left != right || e != f {
			t.Errorf("%d + %d + %d: %d %v, and put together the other way %d %v", a, b, c, left, e, right, f)
		}
		if e == api.OK {
			three++
		}
	}
	if undone < 1000 || three < 1000 {
		t.Errorf("only %d sums of two and %d of three passed nothing", undone, three)
	}
}

// P10.5
func TestGreaterAmountsFeesAreNoLess(t *testing.T) {
	for _, r := range append(rates(), api.Rate{Parts: 50, Least: 1, Most: 100}) {
		last := 0
		for amount := range 2000 {
			n := fee(t, r, amount)
			if n < last || n > amount {
				t.Errorf("Fee(%v, %d): %d, that of one less %d", r, amount, n, last)
			}
			last = n
		}
	}
}

// P10.5
func TestMorePartsMakeNoLess(t *testing.T) {
	for _, amount := range []int{0, 1, 2, 3, 99, 100, 5000, 15000, 123456789, most - 1, most} {
		for _, r := range []api.Rate{{Most: most}, {Least: 1, Most: 100}, {Least: 7, Most: 7}} {
			last := 0
			for r.Parts = range 10001 {
				n := fee(t, r, amount)
				if n < last || n > amount {
					t.Errorf("Fee(%v, %d): %d, with one part less %d", r, amount, n, last)
				}
				last = n
			}
		}
	}
}

// P10.5
func TestFeesByChanceHoldTogether(t *testing.T) {
	rnd := rand.New(rand.NewSource(105))
	for range 200000 {
		r, amount := anyRate(rnd), anyAmount(rnd)
		n := fee(t, r, amount)
		if n < 0 || n > amount {
			t.Errorf("Fee(%v, %d): %d", r, amount, n)
		}
		greater := amount + rnd.Intn(most-amount+1)
		if g := fee(t, r, greater); g < n {
			t.Errorf("Fee(%v, %d): %d, but of %d: %d", r, amount, n, greater, g)
		}
		more := r
		more.Parts += rnd.Intn(10001 - r.Parts)
		if m := fee(t, more, amount); m < n {
			t.Errorf("Fee(%v, %d): %d, but with the rate %v: %d", r, amount, n, more, m)
		}
	}
}
