package crc

import (
	"bytes"
	"hash/crc32"
	"math/rand"
	"testing"
)

const poly = 0x82f63b78

// plainSum reckons as P1.1 says it, bit by bit.
func plainSum(b []byte) uint32 {
	r := uint32(0xffffffff)
	for _, x := range b {
		r ^= uint32(x)
		for range 8 {
			if r&1 == 1 {
				r = r>>1 ^ poly
			} else {
				r >>= 1
			}
		}
	}
	return ^r
}

// bytesOf are four bytes whose sum is the one that is asked: the steps gone backwards.
func bytesOf(sum uint32) []byte {
	r := ^sum
	for range 32 {
		if r>>31 == 1 {
			r = (r^poly)<<1 | 1
		} else {
			r <<= 1
		}
	}
	r = ^r
	return []byte{byte(r), byte(r >> 8), byte(r >> 16), byte(r >> 24)}
}

func randomBytes(rnd *rand.Rand, n int) []byte {
	b := make([]byte, n)
	rnd.Read(b)
	return b
}

func randomSums(rnd *rand.Rand) []uint32 {
	sums := []uint32{0, 1, 1 << 31, 0x7fffffff, 0xffffffff, 0xfffffffe, poly, ^uint32(poly), 0xe3069283}
	for range 200 {
		sums = append(sums, rnd.Uint32())
	}
	return sums
}

// turn turns the bit of that number, the lowest of a byte first.
func turn(b []byte, bit int) { b[bit/8] ^= 1 << (bit % 8) }

// P1.1
func TestSumOfKnownBytes(t *testing.T) {
	count := make([]byte, 32)
	for i := range count {
		count[i] = byte(i)
	}
	for _, x := range []struct {
		b    []byte
		want uint32
	}{
		{nil, 0},
		{[]byte{}, 0},
		{[]byte("123456789"), 0xe3069283},
		{[]byte{0}, 0x527d5351},
		{[]byte{0, 0}, 0xf16177d2},
		{[]byte("a"), 0xc1d04330},
		{make([]byte, 32), 0x8a9136aa},
		{bytes.Repeat([]byte{0xff}, 32), 0x62a8ab43},
		{count, 0x46dd794e},
	} {
		if s := Sum(x.b); s != x.want {
			t.Errorf("Sum(%x): %x, want %x", x.b, s, x.want)
		}
	}
}

// P1.1
func TestSumIsThatOfThePromise(t *testing.T) {
	rnd := rand.New(rand.NewSource(1))
	castagnoli := crc32.MakeTable(crc32.Castagnoli)
	for x := range 256 {
		if b := []byte{byte(x)}; Sum(b) != plainSum(b) {
			t.Errorf("Sum(%x): %x, want %x", b, Sum(b), plainSum(b))
		}
	}
	for n := range 600 {
		b := randomBytes(rnd, n)
		if s := Sum(b); s != plainSum(b) || s != crc32.Checksum(b, castagnoli) {
			t.Errorf("Sum of %d bytes: %x, want %x", n, s, plainSum(b))
		}
	}
}

// P1.2, P1.3
func TestMoreIsSumOfBoth(t *testing.T) {
	rnd := rand.New(rand.NewSource(2))
	for range 300 {
		a, b := randomBytes(rnd, rnd.Intn(80)), randomBytes(rnd, rnd.Intn(80))
		if s, want := More(Sum(a), b), plainSum(bytes.Join([][]byte{a, b}, nil)); s != want {
			t.Errorf("More(Sum(%x), %x): %x, want %x", a, b, s, want)
		}
	}
}

// P1.2: each number, be it handed on from a sum or not.
func TestMoreOfAnyNumber(t *testing.T) {
	rnd := rand.New(rand.NewSource(3))
	for _, sum := range randomSums(rnd) {
		a := bytesOf(sum)
		if s := Sum(a); s != sum {
			t.Errorf("Sum(%x): %x, want %x", a, s, sum)
		}
		b := randomBytes(rnd, rnd.Intn(40))
		if s, want := More(sum, b), plainSum(append(a, b...)); s != want {
			t.Errorf("More(%x, %x): %x, want %x", sum, b, s, want)
		}
	}
}

// P1.3
func TestNothing(t *testing.T) {
	rnd := rand.New(rand.NewSource(4))
	if Sum(nil) != 0 || Sum([]byte{}) != 0 {
		t.Errorf("Sum of nothing: %x, %x", Sum(nil), Sum([]byte{}))
	}
	for _, sum := range randomSums(rnd) {
		if More(sum, nil) != sum || More(sum, []byte{}) != sum {
			t.Errorf("More(%x) of nothing: %x, %x", sum, More(sum, nil), More(sum, []byte{}))
		}
	}
	for n := range 100 {
		if b := randomBytes(rnd, n); More(0, b) != Sum(b) {
			t.Errorf("More(0, %x): %x, want %x", b, More(0, b), Sum(b))
		}
	}
}

// P1.3: bytes cut at each place, and into single ones, from any number on.
func TestPieces(t *testing.T) {
	rnd := rand.New(rand.NewSource(5))
	for _, sum := range randomSums(rnd) {
		b := randomBytes(rnd, rnd.Intn(40))
		want := More(sum, b)
		for i := range len(b) + 1 {
			if s := More(More(sum, b[:i]), b[i:]); s != want {
				t.Errorf("More(%x) of %x, cut at %d: %x, want %x", sum, b, i, s, want)
			}
		}
		s := sum
		for i := range b {
			s = More(s, b[i:i+1])
		}
		if s != want {
			t.Errorf("More(%x) of %x, byte by byte: %x, want %x", sum, b, s, want)
		}
	}
}

// P1.4: one bit.
func TestOneBitTurned(t *testing.T) {
	rnd := rand.New(rand.NewSource(6))
	for n := 1; n <= 100; n++ {
		b := randomBytes(rnd, n)
		sum := Sum(b)
		for bit := range 8 * n {
			turn(b, bit)
			if Sum(b) == sum {
				t.Errorf("bit %d of %d bytes turned: the same sum", bit, n)
			}
			turn(b, bit)
		}
	}
}

// P1.4: 2 to 32 bits: at each place all of them, and some of them with the first and the last one.
func TestBitsSideBySideTurned(t *testing.T) {
	rnd := rand.New(rand.NewSource(7))
	b := randomBytes(rnd, 24)
	sum := Sum(b)
	for width := 2; width <= 32; width++ {
		ends := uint32(1) | 1<<(width-1)
		all := uint32(1)<<width - 1
		for at := range 8*len(b) - width + 1 {
			for _, which := range []uint32{all, ends, ends | rnd.Uint32()&all, ends | rnd.Uint32()&all} {
				x := bytes.Clone(b)
				for i := range width {
					if which>>i&1 == 1 {
						turn(x, at+i)
					}
				}
				if Sum(x) == sum {
					t.Errorf("bits %x from %d on turned: the same sum", which, at)
				}
			}
		}
	}
}

// P1.4: what several turned bits make of a sum is the xor of what each of them makes; so no set of 32 neighbours leaves it, if none of them is made by others.
func TestNoSetOfNeighboursIsUnseen(t *testing.T) {
	b := make([]byte, 12)
	sum := Sum(b)
	seen := make([]uint32, 8*len(b))
	for bit := range seen {
		turn(b, bit)
		seen[bit] = Sum(b) ^ sum
		turn(b, bit)
	}
	for at := range len(seen) - 31 {
		if r := rank(seen[at : at+32]); r != 32 {
			t.Errorf("the 32 bits from %d on: rank %d", at, r)
		}
	}
}

// rank is how many of some rows of bits none of the others makes.
func rank(rows []uint32) int {
	var base [32]uint32
	n := 0
	for _, r := range rows {
		for bit := 31; bit >= 0 && r != 0; bit-- {
			if r>>bit&1 == 0 {
				continue
			}
			if base[bit] == 0 {
				base[bit] = r
				n++
				break
			}
			r ^= base[bit]
		}
	}
	return n
}

// R6: bytes are left as they are, and those behind the length are not read.
func TestBytesAreLeft(t *testing.T) {
	rnd := rand.New(rand.NewSource(8))
	whole := randomBytes(rnd, 64)
	was := bytes.Clone(whole)
	part := whole[:20]
	sum, more := Sum(part), More(7, part)
	if !bytes.Equal(whole, was) {
		t.Error("the bytes were changed")
	}
	for i := 20; i < len(whole); i++ {
		whole[i]++
	}
	if Sum(part) != sum || More(7, part) != more {
		t.Error("bytes behind the length were read")
	}
}
