package ledger

import (
	"math"
	"math/big"
	"math/rand"
	"slices"
	"testing"

	"groat/api"
	"groat/money"
)

const (
	least    = math.MinInt
	greatest = math.MaxInt
	most     = api.MaxAmount
)

func must(t *testing.T, accounts int) *Ledger {
	t.Helper()
	l, e := New(accounts)
	if e != api.OK || l == nil {
		t.Fatalf("New(%d): %v", accounts, e)
	}
	return l
}

// entries are a posting in few words: an account, its amount, an account, its amount, ..
func entries(n ...int) []api.Entry {
	var l []api.Entry
	for i := 0; i < len(n); i += 2 {
		l = append(l, api.Entry{Account: n[i], Amount: n[i+1]})
	}
	return l
}

// holding is a ledger whose accounts have just these balances.
func holding(t *testing.T, balances ...int) *Ledger {
	t.Helper()
	l := must(t, len(balances))
	var e []api.Entry
	for account, n := range balances {
		e = append(e, api.Entry{Account: account, Amount: n})
	}
	post(t, l, e, api.OK)
	expectBalances(t, l, balances...)
	return l
}

func post(t *testing.T, l *Ledger, e []api.Entry, want api.Errno) {
	t.Helper()
	if code := l.Post(e); code != want {
		t.Errorf("Post(%v): %v, want %v", few(e), code, want)
	}
}

// few are the first entries of a posting: as many as one can read.
func few(e []api.Entry) []api.Entry { return e[:min(len(e), 20)] }

func expectBalances(t *testing.T, l *Ledger, want ...int) {
	t.Helper()
	if got := balances(t, l); !slices.Equal(got, want) {
		t.Errorf("balances %v, want %v", got, want)
	}
}

func balances(t *testing.T, l *Ledger) []int {
	t.Helper()
	var all []int
	for account := range l.Len() {
		n, e := l.Balance(account)
		if e != api.OK {
			t.Errorf("Balance(%d): %v", account, e)
		}
		all = append(all, n)
	}
	return all
}

// expectRefused holds that Post answers just that, and that nothing has changed.
func expectRefused(t *testing.T, l *Ledger, e []api.Entry, want api.Errno) {
	t.Helper()
	before := balances(t, l)
	post(t, l, e, want)
	expectBalances(t, l, before...)
}

func large(n int) *big.Int { return big.NewInt(int64(n)) }

// plain is a ledger in the chapter's words, with balances of any length.
type plain []*big.Int

func newPlain(accounts int) plain {
	p := make(plain, accounts)
	for i := range p {
		p[i] = new(big.Int)
	}
	return p
}

func (p plain) post(e []api.Entry) api.Errno {
	all, after := new(big.Int), p.clone()
	for _, x := range e {
		if x.Account < 0 || x.Account >= len(p) {
			return api.ErrAccount
		}
	}
	for _, x := range e {
		all.Add(all, large(x.Amount))
		after[x.Account].Add(after[x.Account], large(x.Amount))
	}
	if all.Sign() != 0 {
		return api.ErrSum
	}
	for _, n := range after {
		if !n.IsInt64() {
			return api.ErrMoney
		}
	}
	copy(p, after)
	return api.OK
}

func (p plain) clone() plain {
	other := newPlain(len(p))
	for i, n := range p {
		other[i].Set(n)
	}
	return other
}

func (p plain) balances() []int {
	var l []int
	for _, n := range p {
		l = append(l, int(n.Int64()))
	}
	return l
}

// sumOf is the exact sum of a list of numbers.
func sumOf(l []int) *big.Int {
	sum := new(big.Int)
	for _, n := range l {
		sum.Add(sum, large(n))
	}
	return sum
}

func amountsOf(e []api.Entry) []int {
	var l []int
	for _, x := range e {
		l = append(l, x.Amount)
	}
	return l
}

// P12.1: 1 to 7 accounts, and no others.
func TestNew(t *testing.T) {
	for _, accounts := range []int{least, -1 << 32, -8, -1, 0, 8, 9, 100, 1 << 32, 1<<32 + 1, greatest} {
		if l, e := New(accounts); l != nil || e != api.ErrArg {
			t.Errorf("New(%d): %v, want ErrArg", accounts, e)
		}
	}
	for accounts := 1; accounts <= 7; accounts++ {
		l := must(t, accounts)
		if l.Len() != accounts {
			t.Errorf("%d accounts: Len %d", accounts, l.Len())
		}
		expectBalances(t, l, make([]int, accounts)...)
	}
}

// P12.1: accounts are from 0 on, below Len; of others there is no balance.
func TestBalanceOfNoAccount(t *testing.T) {
	for accounts := 1; accounts <= 7; accounts++ {
		l := must(t, accounts)
		if accounts > 1 {
			post(t, l, entries(0, 5, accounts-1, -5), api.OK)
		}
		for _, account := range []int{least, -1 << 32, -accounts, -2, -1, accounts, accounts + 1, 6, 7, 8, 1 << 32, 1<<32 + 1, greatest} {
			if account >= 0 && account < accounts {
				continue
			}
			if n, e := l.Balance(account); n != 0 || e != api.ErrAccount {
				t.Errorf("%d accounts: Balance(%d): %d %v, want ErrAccount", accounts, account, n, e)
			}
		}
	}
}

// P12.2: the chapter's examples.
func TestPostsOfTheExamples(t *testing.T) {
	l := must(t, 3)
	post(t, l, entries(0, 5, 1, -5), api.OK)
	expectBalances(t, l, 5, -5, 0)
	expectRefused(t, l, entries(0, 5), api.ErrSum)
	expectRefused(t, l, entries(3, 0), api.ErrAccount)
	post(t, l, nil, api.OK)
	post(t, l, []api.Entry{}, api.OK)
	expectRefused(t, l, entries(0, greatest, 1, -greatest), api.ErrMoney)
	expectBalances(t, l, 5, -5, 0)
}

// P12.2: each account has its amounts more, wherever they stand, and however many there are of it.
func TestPost(t *testing.T) {
	l := must(t, 4)
	post(t, l, entries(0, 1, 1, 20, 0, 300, 3, -321), api.OK)
	expectBalances(t, l, 301, 20, 0, -321)
	post(t, l, entries(3, 21, 2, -7, 2, 0, 1, -20, 2, 6), api.OK)
	expectBalances(t, l, 301, 0, -1, -300)
	post(t, l, entries(2, 9, 2, -9), api.OK)
	post(t, l, entries(0, 0, 1, 0, 2, 0, 3, 0), api.OK)
	expectBalances(t, l, 301, 0, -1, -300)
	post(t, l, entries(0, -301, 3, 300, 2, 1), api.OK)
	expectBalances(t, l, 0, 0, 0, 0)
}

// P12.2: each pair of accounts of each ledger; all others stay as they were.
func TestPostOfEachPair(t *testing.T) {
	for accounts := 1; accounts <= 7; accounts++ {
		for from := range accounts {
			for to := range accounts {
				l := must(t, accounts)
				post(t, l, entries(from, -9, to, 9), api.OK)
				want := make([]int, accounts)
				want[from] -= 9
				want[to] += 9
				expectBalances(t, l, want...)
			}
		}
	}
}

// P12.2: one entry of no account, in each place, whatever the others are.
func TestPostOfNoAccount(t *testing.T) {
	for accounts := 1; accounts <= 7; accounts++ {
		l := must(t, accounts)
		for _, wrong := range []int{least, -1 << 32, -1, accounts, accounts + 1, 8, 1 << 32, greatest} {
			for _, amount := range []int{0, 1, -1, greatest, least} {
				for place := range 4 {
					for _, e := range [][]api.Entry{
						entries(0, 0, 0, 0, 0, 0),
						entries(0, 5, 0, -5, 0, -amount),
						entries(0, 5, 0, 5, 0, 5),
						entries(0, greatest, 0, 1, 0, greatest),
						entries(0, least, 0, -1, 0, least),
					} {
						e = slices.Insert(e, place, api.Entry{Account: wrong, Amount: amount})
						expectRefused(t, l, e, api.ErrAccount)
					}
				}
			}
		}
	}
}

// P12.2: of several errors the one that is named first.
func TestOrderOfPostsErrors(t *testing.T) {
	l := holding(t, greatest, -greatest, 0)
	expectRefused(t, l, entries(0, 1, 1, -1), api.ErrMoney)
	expectRefused(t, l, entries(0, 1), api.ErrSum)
	expectRefused(t, l, entries(0, 1, 1, -2), api.ErrSum)
	expectRefused(t, l, entries(0, 1, 1, -2, 2, 2), api.ErrSum)
	expectRefused(t, l, entries(0, 1, 3, 0), api.ErrAccount)
	expectRefused(t, l, entries(0, 1, 1, -1, 3, 0), api.ErrAccount)
	expectRefused(t, l, entries(0, 1, 3, -1), api.ErrAccount)
	expectRefused(t, l, entries(-1, 0, 0, 1), api.ErrAccount)
}

// P12.2: sums that are nought only if they wrap round, or only if they do not.
func TestExactSums(t *testing.T) {
	const quarter = 1 << 62
	for _, x := range []struct {
		e    []api.Entry
		code api.Errno
	}{
		{entries(0, quarter, 0, quarter, 0, quarter, 0, quarter), api.ErrSum},
		{entries(0, quarter, 1, quarter, 2, quarter, 0, quarter), api.ErrSum},
		{entries(0, -quarter, 1, -quarter, 2, -quarter, 0, -quarter), api.ErrSum},
		{entries(0, least, 1, least), api.ErrSum},
		{entries(0, least, 0, least), api.ErrSum},
		{entries(0, least, 1, least, 2, least, 0, least), api.ErrSum},
		{entries(0, greatest, 1, greatest, 2, 2), api.ErrSum},
		{entries(0, greatest, 0, greatest, 0, 2), api.ErrSum},
		{entries(0, greatest, 1, 1, 2, greatest, 0, 1), api.ErrSum},
		{entries(0, greatest, 1, least), api.ErrSum},
		{entries(0, greatest, 1, -greatest, 2, 1), api.ErrSum},
		{entries(0, 1<<32, 1, -1), api.ErrSum},
		{entries(0, 1<<32), api.ErrSum},
		{entries(0, least, 1, greatest), api.ErrSum},
		{entries(0, least, 1, greatest, 2, 1), api.OK},
		{entries(1, greatest, 2, 1, 0, least), api.OK},
		{entries(2, 1, 0, least, 1, greatest), api.OK},
		{entries(0, greatest, 1, -greatest), api.OK},
		{entries(0, least, 1, quarter, 2, quarter), api.OK},
		{entries(0, greatest, 1, greatest, 2, least, 0, least, 2, 2), api.OK},
		{entries(2, greatest, 2, 1, 2, least), api.OK},
		{entries(0, least, 0, least, 0, greatest, 0, greatest, 0, 2), api.OK},
		{entries(0, least, 0, least, 0, greatest, 0, greatest, 1, 2), api.OK},
		{entries(0, quarter, 0, quarter, 0, quarter, 0, quarter, 0, least, 0, least), api.OK},
	} {
		l := must(t, 3)
		if x.code != api.OK {
			expectRefused(t, l, x.e, x.code)
			continue
		}
		p := newPlain(3)
		p.post(x.e)
		post(t, l, x.e, api.OK)
		expectBalances(t, l, p.balances()...)
	}
}

// P12.2: a balance may be all that 64 bits hold, and no more, whatever it comes from and wherever it stands.
func TestBalancesAtTheEnds(t *testing.T) {
	for account := range 7 {
		other, third := (account+1)%7, (account+3)%7
		for d := range 4 {
			l := must(t, 7)
			post(t, l, entries(account, greatest-d, other, d-greatest), api.OK)
			for more := 1; more < 6; more++ {
				x := l.Clone()
				if more <= d {
					post(t, x, entries(account, more, third, -more), api.OK)
				} else {
					expectRefused(t, x, entries(account, more, third, -more), api.ErrMoney)
				}
				x = l.Clone()
				// The other one is one step farther from its end.
				if more <= d+1 {
					post(t, x, entries(other, -more, third, more), api.OK)
				} else {
					expectRefused(t, x, entries(other, -more, third, more), api.ErrMoney)
				}
			}
		}
	}
}

// P12.2: what counts is a balance with all of its amounts, not what it is amid them.
func TestBalancesThatComeBack(t *testing.T) {
	l := holding(t, greatest, least, 1)
	for _, e := range [][]api.Entry{
		entries(0, 1, 0, -1),
		entries(1, -1, 1, 1),
		entries(0, greatest, 1, -greatest, 1, greatest, 0, -greatest),
		entries(0, greatest, 0, greatest, 0, greatest, 0, -greatest, 0, -greatest, 0, -greatest),
		entries(1, least, 1, least, 1, greatest, 1, 1, 1, greatest, 1, 1),
	} {
		post(t, l, e, api.OK)
		expectBalances(t, l, greatest, least, 1)
	}
	post(t, l, entries(0, 1, 1, -1, 2, -1, 0, -2, 1, 2, 2, 1), api.OK)
	expectBalances(t, l, greatest-1, least+1, 1)
	post(t, l, entries(0, least, 0, least, 0, 2, 1, greatest, 1, greatest), api.OK)
	expectBalances(t, l, least, greatest, 1)
}

// P12.2: amounts that pass 64 bits by so much that what is left of them there fits again.
func TestBalancesThatWrapRoundWholly(t *testing.T) {
	up := func(account int) []api.Entry { return entries(account, greatest, account, greatest, account, 2) } // 2^64
	down := func(account int) []api.Entry { return entries(account, least, account, least) }
	for _, l := range []*Ledger{must(t, 3), holding(t, 5, -5, 0), holding(t, least, greatest, 1), holding(t, -1, 0, 1)} {
		for times := 1; times <= 3; times++ {
			for _, pair := range [][2]int{{0, 1}, {1, 0}, {0, 2}, {2, 1}} {
				var e []api.Entry
				for range times {
					e = slices.Concat(e, up(pair[0]), down(pair[1]))
				}
				expectRefused(t, l, e, api.ErrMoney)
				expectRefused(t, l, append(e, entries(0, 1, 1, -1)...), api.ErrMoney)
				expectRefused(t, l, append(e, entries(0, 1)...), api.ErrSum)
			}
		}
		before := balances(t, l)
		post(t, l, slices.Concat(up(0), down(1), up(1), down(0)), api.OK)
		expectBalances(t, l, before...)
	}
}

// P12.2: so many entries that their sums go far beyond 64 bits.
func TestManyEntries(t *testing.T) {
	const n = 1 << 18
	e := make([]api.Entry, 0, 2*n+2)
	for range n {
		e = append(e, api.Entry{Account: 0, Amount: least})
	}
	l := must(t, 2)
	expectRefused(t, l, e, api.ErrSum)
	for range n {
		e = append(e, api.Entry{Account: 0, Amount: greatest})
	}
	expectRefused(t, l, e, api.ErrSum)
	post(t, l, append(e, api.Entry{Account: 1, Amount: n}), api.OK)
	expectBalances(t, l, -n, n)
	post(t, l, append(e, api.Entry{Account: 0, Amount: n}), api.OK)
	expectBalances(t, l, -n, n)
	for i := range e[:2*n] {
		e[i].Account = i / n
	}
	expectRefused(t, l, append(e, api.Entry{Account: 0, Amount: n}), api.ErrMoney)
}

// anyAmount is one that chance chooses, of any length in bits, or an edge.
func anyAmount(rnd *rand.Rand) int {
	edges := []int{least, least + 1, -1 << 62, -1, 0, 1, 1 << 62, greatest - 1, greatest}
	if rnd.Intn(4) == 0 {
		return edges[rnd.Intn(len(edges))]
	}
	return int(rnd.Uint64()) >> rnd.Intn(64)
}

// anyPosting is of any amounts, and mostly balanced by entries at its end, or almost.
func anyPosting(rnd *rand.Rand, accounts int) []api.Entry {
	var e []api.Entry
	for range rnd.Intn(6) {
		e = append(e, api.Entry{Account: rnd.Intn(accounts), Amount: anyAmount(rnd)})
	}
	rest := new(big.Int).Neg(sumOf(amountsOf(e)))
	for rest.Sign() != 0 && rnd.Intn(40) > 0 {
		part := greatest
		if rest.IsInt64() {
			part = int(rest.Int64())
		} else if rest.Sign() < 0 {
			part = least
		}
		e = append(e, api.Entry{Account: rnd.Intn(accounts), Amount: part})
		rest.Sub(rest, large(part))
	}
	if rnd.Intn(30) == 0 {
		e = append(e, api.Entry{Account: rnd.Intn(accounts+4) - 2, Amount: rnd.Intn(3) - 1})
	}
	rnd.Shuffle(len(e), func(i, j int) { e[i], e[j] = e[j], e[i] })
	return e
}

// P12.2, P12.5, P12.6: postings by chance, on ledgers and their clones, held against plain ones.
func TestByChance(t *testing.T) {
	told := map[api.Errno]int{}
	for seed := range int64(300) {
		rnd := rand.New(rand.NewSource(seed))
		accounts := 1 + rnd.Intn(7)
		ledgers, plains := []*Ledger{must(t, accounts)}, []plain{newPlain(accounts)}
		for range 300 {
			at := rnd.Intn(len(ledgers))
			e := anyPosting(rnd, accounts)
			want := plains[at].post(e)
			told[want]++
			if code := ledgers[at].Post(e); code != want {
				t.Fatalf("seed %d: Post(%v): %v, want %v", seed, e, code, want)
			}
			for i, l := range ledgers {
				got := balances(t, l)
				if !slices.Equal(got, plains[i].balances()) || sumOf(got).Sign() != 0 {
					t.Fatalf("seed %d: Post(%v): balances %v, want %v", seed, e, got, plains[i])
				}
			}
			if len(ledgers) < 4 && rnd.Intn(50) == 0 {
				ledgers = append(ledgers, ledgers[at].Clone())
				plains = append(plains, plains[at].clone())
			}
		}
	}
	for _, code := range []api.Errno{api.OK, api.ErrAccount, api.ErrSum, api.ErrMoney} {
		if told[code] < 500 {
			t.Error("only", told[code], "postings were to be told", code)
		}
	}
}

// of is a configuration of so many members, with these rates.
func of(members int, inter, fee api.Rate) api.Config {
	return api.Config{Members: make([]api.Member, members), Inter: inter, Fee: fee}
}

var (
	someInter = api.Rate{Parts: 50, Most: 1000}
	someFee   = api.Rate{Parts: 10, Least: 1, Most: 100}
	noRate    = api.Rate{}
)

// payment is one that there is.
func payment(t *testing.T, c api.Config, acquirer, issuer, amount int) []api.Entry {
	t.Helper()
	e, code := Payment(c, acquirer, issuer, amount)
	if code != api.OK {
		t.Errorf("Payment of %d members, %v, %v; %d, %d, %d: %v", len(c.Members), c.Inter, c.Fee, acquirer, issuer, amount, code)
	}
	return e
}

func expectPayment(t *testing.T, c api.Config, acquirer, issuer, amount int, want []api.Entry) {
	t.Helper()
	if e := payment(t, c, acquirer, issuer, amount); !slices.Equal(e, want) {
		t.Errorf("Payment of %d members, %v, %v; %d, %d, %d: %v, want %v", len(c.Members), c.Inter, c.Fee, acquirer, issuer, amount, e, want)
	}
}

func expectNoPayment(t *testing.T, c api.Config, acquirer, issuer, amount int, want api.Errno) {
	t.Helper()
	if e, code := Payment(c, acquirer, issuer, amount); len(e) != 0 || code != want {
		t.Errorf("Payment of %d members, %v, %v; %d, %d, %d: %v %v, want %v", len(c.Members), c.Inter, c.Fee, acquirer, issuer, amount, e, code, want)
	}
}

// P12.3: the chapter's example, and those of DOC.md.
func TestPaymentsOfTheExamples(t *testing.T) {
	expectPayment(t, of(2, someInter, someFee), 0, 1, 10000, entries(1, -10000, 0, 10000, 0, -50, 1, 50, 0, -10, 2, 10))
	l := must(t, 4)
	c := of(3, api.Rate{Parts: 50, Most: most}, someFee)
	post(t, l, payment(t, c, 0, 1, 10000), api.OK)
	expectBalances(t, l, 9940, -9950, 0, 10)
}

// P12.3: entries of 0 are left out, the others keep their order.
func TestPaymentWithoutSome(t *testing.T) {
	for _, x := range []struct {
		inter, fee api.Rate
		amount     int
		want       []api.Entry
	}{
		{someInter, someFee, 0, nil},
		{noRate, noRate, 0, nil},
		{api.Rate{Least: 5, Most: 5}, api.Rate{Least: 5, Most: 5}, 0, nil},
		{noRate, noRate, 300, entries(1, -300, 0, 300)},
		{someInter, noRate, 300, entries(1, -300, 0, 300, 0, -2, 1, 2)},
		{noRate, someFee, 300, entries(1, -300, 0, 300, 0, -1, 3, 1)},
		{someInter, someFee, 100, entries(1, -100, 0, 100, 0, -1, 3, 1)},
		{someInter, someFee, 101, entries(1, -101, 0, 101, 0, -1, 1, 1, 0, -1, 3, 1)},
		{someInter, someFee, 1, entries(1, -1, 0, 1, 0, -1, 3, 1)},
		{api.Rate{Parts: 10000, Most: most}, api.Rate{Parts: 10000, Most: most}, most, entries(1, -most, 0, most, 0, -most, 1, most, 0, -most, 3, most)},
		{api.Rate{Least: 7, Most: 9}, api.Rate{Least: 3, Most: 9}, 5, entries(1, -5, 0, 5, 0, -5, 1, 5, 0, -3, 3, 3)},
	} {
		expectPayment(t, of(3, x.inter, x.fee), 0, 1, x.amount, x.want)
	}
}

// P12.3: any two members, one with itself too, of as many as there are: the switch's account is behind them all.
func TestPaymentsMembers(t *testing.T) {
	for _, members := range []int{1, 2, 3, 6, 7, 20} {
		c := of(members, someInter, someFee)
		for acquirer := range members {
			for issuer := range members {
				expectPayment(t, c, acquirer, issuer, 10000, entries(issuer, -10000, acquirer, 10000, acquirer, -50, issuer, 50, acquirer, -10, members, 10))
			}
		}
	}
}

// P12.3: ErrAccount, whatever else is wrong.
func TestPaymentOfNoMember(t *testing.T) {
	wrongRate := api.Rate{Parts: 10001}
	for _, members := range []int{0, 1, 2, 6} {
		for _, c := range []api.Config{of(members, someInter, someFee), of(members, wrongRate, someFee), of(members, someInter, wrongRate)} {
			for _, amount := range []int{least, -1, 0, 1, 10000, most, most + 1, greatest} {
				for _, wrong := range []int{least, -1 << 32, -2, -1, members, members + 1, 7, 1 << 32, greatest} {
					expectNoPayment(t, c, wrong, 0, amount, api.ErrAccount)
					expectNoPayment(t, c, 0, wrong, amount, api.ErrAccount)
					expectNoPayment(t, c, wrong, wrong, amount, api.ErrAccount)
				}
			}
		}
	}
}

// P12.3: Fee's error of Inter and amount, ahead of that of Fee.
func TestPaymentsErrors(t *testing.T) {
	wrongRates := []api.Rate{{Parts: -1}, {Parts: 10001}, {Least: -1}, {Least: 2, Most: 1}, {Most: most + 1}}
	wrongAmounts := []int{least, -most, -1, most + 1, greatest}
	for _, wrong := range wrongRates {
		for _, amount := range append(wrongAmounts, 0, 1, most) {
			expectNoPayment(t, of(2, wrong, someFee), 0, 1, amount, api.ErrRate)
			expectNoPayment(t, of(2, wrong, wrong), 0, 1, amount, api.ErrRate)
		}
		for _, amount := range wrongAmounts {
			expectNoPayment(t, of(2, someInter, wrong), 0, 1, amount, api.ErrMoney)
		}
		for _, amount := range []int{0, 1, most} {
			expectNoPayment(t, of(2, someInter, wrong), 0, 1, amount, api.ErrRate)
		}
	}
	for _, amount := range wrongAmounts {
		expectNoPayment(t, of(2, someInter, someFee), 0, 1, amount, api.ErrMoney)
		expectNoPayment(t, of(2, noRate, noRate), 1, 1, amount, api.ErrMoney)
	}
}

// P12.3: nothing else of the configuration is asked, be it wrong or not.
func TestPaymentAsksNothingElse(t *testing.T) {
	c := of(2, someInter, someFee)
	want := payment(t, c, 0, 1, 10000)
	c.Members = []api.Member{{Code: "x", Dialect: 9, Key: []byte{1}, Stand: api.Stand{Most: -1}}, {Code: "x"}}
	c.Routes = []api.Route{{Prefix: "x", To: []int{7}}}
	c.Timeout, c.Retry, c.Queue = -1, least, greatest
	expectPayment(t, c, 0, 1, 10000, want)
}

// anyRate is one that may be.
func anyRate(rnd *rand.Rand) api.Rate {
	r := api.Rate{Parts: rnd.Intn(10001), Most: rnd.Intn(most+1) >> rnd.Intn(40)}
	if rnd.Intn(2) == 0 {
		r.Least = rnd.Intn(r.Most + 1)
	}
	return r
}

// plainPayment is a payment in the chapter's words.
func plainPayment(t *testing.T, c api.Config, acquirer, issuer, amount int) []api.Entry {
	t.Helper()
	inter, e := money.Fee(c.Inter, amount)
	fee, code := money.Fee(c.Fee, amount)
	if e != api.OK || code != api.OK {
		t.Fatal(c.Inter, c.Fee, amount, e, code)
	}
	var l []api.Entry
	if amount != 0 {
		l = append(l, entries(issuer, -amount, acquirer, amount)...)
	}
	if inter != 0 {
		l = append(l, entries(acquirer, -inter, issuer, inter)...)
	}
	if fee != 0 {
		l = append(l, entries(acquirer, -fee, len(c.Members), fee)...)
	}
	return l
}

// P12.3, P12.6: payments by chance: their entries, whose sum is nought, and which undo one another with what they are turned.
func TestPaymentsByChance(t *testing.T) {
	rnd := rand.New(rand.NewSource(123))
	for members := 1; members <= 6; members++ {
		l := must(t, members+1)
		for range 3000 {
			c := of(members, anyRate(rnd), anyRate(rnd))
			acquirer, issuer, amount := rnd.Intn(members), rnd.Intn(members), rnd.Intn(most+1)>>rnd.Intn(40)
			expectPayment(t, c, acquirer, issuer, amount, plainPayment(t, c, acquirer, issuer, amount))
			e := payment(t, c, acquirer, issuer, amount)
			if sumOf(amountsOf(e)).Sign() != 0 {
				t.Error("a sum that is not nought", e)
			}
			before := balances(t, l)
			post(t, l, e, api.OK)
			post(t, l, turned(t, e), api.OK)
			expectBalances(t, l, before...)
			post(t, l, append(turned(t, e), e...), api.OK)
			expectBalances(t, l, before...)
			post(t, l, e, api.OK)
		}
		if got := balances(t, l); sumOf(got).Sign() != 0 {
			t.Error("balances whose sum is not nought", got)
		}
	}
}

// turned is what entries are turned, where they may be.
func turned(t *testing.T, e []api.Entry) []api.Entry {
	t.Helper()
	l, code := Turned(e)
	if code != api.OK {
		t.Errorf("Turned(%v): %v", few(e), code)
	}
	return l
}

// P12.4: each amount's sign, in their order, of any sum, and of any accounts (which may be the least number).
func TestTurned(t *testing.T) {
	for _, x := range [][2][]api.Entry{
		{nil, nil},
		{[]api.Entry{}, nil},
		{entries(0, 5, 1, -5), entries(0, -5, 1, 5)},
		{entries(0, 0, 0, 0), entries(0, 0, 0, 0)},
		{entries(1, 7, 0, 0, 1, 7), entries(1, -7, 0, 0, 1, -7)},
		{entries(0, greatest, 1, least+1), entries(0, least+1, 1, greatest)},
		{entries(-1, 1, 7, 2, 99, 3, least, 4, greatest, -5), entries(-1, -1, 7, -2, 99, -3, least, -4, greatest, 5)},
		{entries(1, -10000, 0, 10000, 0, -50, 1, 50, 0, -10, 2, 10), entries(1, 10000, 0, -10000, 0, 50, 1, -50, 0, 10, 2, -10)},
	} {
		if l := turned(t, x[0]); !slices.Equal(l, x[1]) {
			t.Errorf("Turned(%v): %v, want %v", x[0], l, x[1])
		}
		if l := turned(t, turned(t, x[0])); !slices.Equal(l, x[0]) {
			t.Errorf("%v turned twice: %v", x[0], l)
		}
	}
}

// P12.4: the least amount, in each place, and nothing beside the error.
func TestTurnedOfTheLeast(t *testing.T) {
	for n := range 5 {
		for place := range n + 1 {
			for _, account := range []int{0, -1, least, 99} {
				e := slices.Insert(entries(0, 1, 1, -1, 2, greatest, 3, least+1)[:n], place, api.Entry{Account: account, Amount: least})
				if l, code := Turned(e); len(l) != 0 || code != api.ErrMoney {
					t.Errorf("Turned(%v): %v %v, want ErrMoney", e, l, code)
				}
			}
		}
	}
	if l, code := Turned(entries(0, least, 1, least)); len(l) != 0 || code != api.ErrMoney {
		t.Error(l, code)
	}
}

// P12.5: a clone answers as the other one, and neither sees what is done to the other.
func TestClone(t *testing.T) {
	for accounts := 2; accounts <= 7; accounts++ {
		l := must(t, accounts)
		last := accounts - 1
		post(t, l, entries(0, 5, last, -5), api.OK)
		before := balances(t, l)
		x := l.Clone()
		y := x.Clone()
		expectBalances(t, x, before...)
		if x.Len() != accounts || y.Len() != accounts {
			t.Error(accounts, x.Len(), y.Len())
		}
		post(t, l, entries(0, 1, last, -1), api.OK)
		expectBalances(t, x, before...)
		post(t, x, entries(0, -5, last, 5), api.OK)
		expectBalances(t, x, make([]int, accounts)...)
		expectBalances(t, y, before...)
		expectRefused(t, x, entries(accounts, 0), api.ErrAccount)
		expectRefused(t, x, entries(0, 1), api.ErrSum)
		if n, e := l.Balance(0); n != 6 || e != api.OK {
			t.Error(accounts, n, e)
		}
	}
}

// P12.5: a clone's balances are as near their ends.
func TestClonesEnds(t *testing.T) {
	l := holding(t, greatest, least, 1)
	x := l.Clone()
	expectRefused(t, x, entries(0, 1, 2, -1), api.ErrMoney)
	post(t, l, entries(0, -1, 2, 1), api.OK)
	expectRefused(t, x, entries(0, 1, 2, -1), api.ErrMoney)
	expectRefused(t, x, entries(1, -1, 2, 1), api.ErrMoney)
	post(t, l, entries(0, 1, 2, -1), api.OK)
}

// P12.6: the sum is nought behind whatever was posted or refused, and a payment is undone by what it is turned, others in between.
func TestSumIsNought(t *testing.T) {
	l := must(t, 3)
	c := of(2, someInter, someFee)
	var posted [][]api.Entry
	for amount := 0; amount < 50000; amount += 499 {
		e := payment(t, c, amount%2, (amount/2)%2, amount)
		posted = append(posted, e)
		post(t, l, e, api.OK)
		l.Post(entries(0, amount+1, 1, -amount))
		l.Post(entries(0, amount, 3, -amount))
		if got := balances(t, l); sumOf(got).Sign() != 0 {
			t.Error("behind", amount, got)
		}
	}
	for i := range posted {
		post(t, l, turned(t, posted[(i*7)%len(posted)]), api.OK)
	}
	if len(posted)%7 == 0 {
		t.Fatal("not each one was turned once")
	}
	expectBalances(t, l, 0, 0, 0)
}

// R6: what is handed in is neither changed, nor kept, nor read behind its length.
func TestWhatIsHandedIn(t *testing.T) {
	room := entries(0, 5, 1, -5, 0, 7, 9, least)
	l := must(t, 2)
	post(t, l, room[:2], api.OK)
	back := turned(t, room[:2])
	expectRefused(t, l, room[:3], api.ErrSum)
	if !slices.Equal(room, entries(0, 5, 1, -5, 0, 7, 9, least)) {
		t.Error("changed", room)
	}
	room[0], room[1] = api.Entry{Account: 1, Amount: 9}, api.Entry{Account: 1, Amount: 9}
	expectBalances(t, l, 5, -5)
	if !slices.Equal(back, entries(0, -5, 1, 5)) {
		t.Error("kept", back)
	}
	members := make([]api.Member, 5)
	c := of(0, someInter, someFee)
	c.Members = members[:2]
	expectPayment(t, c, 0, 1, 300, entries(1, -300, 0, 300, 0, -2, 1, 2, 0, -1, 2, 1))
	expectNoPayment(t, c, 2, 1, 300, api.ErrAccount)
}

// R6: what comes out is the caller's, its spare room too.
func TestWhatComesOut(t *testing.T) {
	spoil := func(e []api.Entry) {
		for i := range e[:cap(e)] {
			e[:cap(e)][i] = api.Entry{Account: 77, Amount: 77}
		}
	}
	c := of(2, noRate, someFee)
	want := entries(1, -300, 0, 300, 0, -1, 2, 1)
	for range 3 {
		kept, e := payment(t, c, 0, 1, 300), payment(t, c, 0, 1, 300)
		spoil(e)
		back := turned(t, kept)
		spoil(turned(t, kept))
		if !slices.Equal(kept, want) || !slices.Equal(turned(t, back), want) {
			t.Error("shared", kept, back)
		}
		spoil(back)
		if !slices.Equal(kept, want) {
			t.Error("shared with the argument", kept)
		}
	}
}
