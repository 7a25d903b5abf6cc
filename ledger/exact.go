package ledger

import (
	"math/bits"

	"groat/api"
)

// exact is a sum that never wraps round, however great its parts: two's complement of 128 bits. (The amounts of a balance may pass 64 bits on the way to one that does not.)
type exact struct {
	high int
	low  uint64
}

func (s exact) plus(n int) exact {
	low, carry := bits.Add64(s.low, uint64(n), 0)
	return exact{high: s.high + sign(n) + int(carry), low: low}
}

// fits tells whether 64 bits hold it.
func (s exact) fits() bool { return s.high == sign(int(s.low)) }

// sign is what stands ahead of a number's 64 bits: ones alone (which is -1), if it is below nought.
func sign(n int) int { return n >> 63 }

func exactly(balances [mostAccounts]int) [mostAccounts]exact {
	var l [mostAccounts]exact
	for i, n := range balances {
		l[i] = exact{}.plus(n)
	}
	return l
}

// fitted is exactly's way back, where there is one.
func fitted(l [mostAccounts]exact) ([mostAccounts]int, api.Errno) {
	var balances [mostAccounts]int
	for i, s := range l {
		if !s.fits() {
			return [mostAccounts]int{}, api.ErrMoney
		}
		balances[i] = int(s.low)
	}
	return balances, api.OK
}
