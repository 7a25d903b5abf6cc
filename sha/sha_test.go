package sha

import (
	"bytes"
	"crypto/hmac"
	"crypto/sha256"
	"encoding/hex"
	"math/big"
	"math/rand"
	"slices"
	"strings"
	"testing"

	"groat/api"
)

func randomBytes(rnd *rand.Rand, n int) []byte {
	b := make([]byte, n)
	rnd.Read(b)
	return b
}

// counted are n bytes that differ from one another, and from those of another n.
func counted(n int) []byte {
	b := make([]byte, n)
	for i := range b {
		b[i] = byte(7*i + n)
	}
	return b
}

func text(h api.Hash) string { return hex.EncodeToString(h[:]) }

// otherMac is the mac as another's HMAC has it.
func otherMac(key, b []byte) api.Hash {
	m := hmac.New(sha256.New, key)
	m.Write(b)
	return api.Hash(m.Sum(nil))
}

// wordsMac is the mac in P2.2's own words, made by Sum alone.
func wordsMac(key, b []byte) api.Hash {
	k := key
	if len(k) > 64 {
		h := Sum(key)
		k = h[:]
	}
	k = append(bytes.Clone(k), make([]byte, 64-len(k))...)
	var x, y []byte
	for _, c := range k {
		x, y = append(x, c^0x36), append(y, c^0x5c)
	}
	inner := Sum(append(x, b...))
	return Sum(append(y, inner[:]...))
}

// P2.1
func TestSumOfKnownBytes(t *testing.T) {
	for _, x := range []struct {
		b    []byte
		want string
	}{
		{nil, "e3b0c44298fc1c149afbf4c8996fb92427ae41e4649b934ca495991b7852b855"},
		{[]byte{}, "e3b0c44298fc1c149afbf4c8996fb92427ae41e4649b934ca495991b7852b855"},
		{[]byte("abc"), "ba7816bf8f01cfea414140de5dae2223b00361a396177a9cb410ff61f20015ad"},
		{[]byte("abcdbcdecdefdefgefghfghighijhijkijkljklmklmnlmnomnopnopq"), "248d6a61d20638b8e5c026930c3e6039a33ce45964ff2167f6ecedd419db06c1"},
		{[]byte("abcdefghbcdefghicdefghijdefghijkefghijklfghijklmghijklmnhijklmnoijklmnopjklmnopqklmnopqrlmnopqrsmnopqrstnopqrstu"), "cf5b16a778af8380036ce59e7b0492370b249b11e8f07a51afac45037afee9d1"},
		{bytes.Repeat([]byte("a"), 64), "ffe054fe7ae0cb6dc65c3af9b61d5209f439851db43d0ba5997337df154668eb"},
		{bytes.Repeat([]byte("a"), 1000000), "cdc76e5c9914fb9281a1c7e284d73e67f1809a48a497200e046d39ccc7112cd0"},
	} {
		if h := text(Sum(x.b)); h != x.want {
			t.Errorf("Sum of %d bytes, %.20q: %s, want %s", len(x.b), x.b, h, x.want)
		}
	}
}

// P2.1: the lengths at which the last piece is just full, and those beside them.
func TestSumAtTheEdgesOfPieces(t *testing.T) {
	for n, want := range map[int]string{
		1:    "4bf5122f344554c53bde2ebb8cd2b7e3d1600ad631c385a5d7cce23c7785459a",
		3:    "6ab0dba1f4f1dfbb37b4f9eeb092c09fca4900ad32bdcd147d8dde35d6c87c35",
		55:   "81afe5b788dc2ce138ff83d9b20164db75a94d75d2b2432eea4a0ef605088c72",
		56:   "2aba54f0ac632420a2b502431408866e40e1d5e430df4cd822642c78ab2eb9c1",
		57:   "903284efbf9100e8ba1614ec65eacacad125e03f857cae7acbf8b73b23e0fdfe",
		63:   "733d3d4ee79ee67145bf73da13588f6f235d37414fc64b14a2f00f1762792f5e",
		64:   "79322907b3e9d013d7dc2c2f256674dbf733045cde01df3539271c6f5605feb8",
		65:   "d85c007c6eb440f085afa2b84f6f2bce4658b240e9f62cb1364bf0485a57e720",
		111:  "b41ae5233b9ec35d8576a032034d2857b667a618c7038714d727d4dae3aa2525",
		112:  "0949563bc78e5ccd85603fa20368a33ed3d2da0141c8284a3b1515fe4683cdd7",
		119:  "6c87eedf096b345de205b702e5223b73b447a3207791ded3ea007ba15ed6736e",
		120:  "42500cf6a1e3936d6b9e0bcfe296d654b63255e525487d3634d0b15fde591c4d",
		127:  "68f6ff710276900c0ffbbc57426f67e00c2e01f0750c7edc25ac06b8ce7a8095",
		128:  "489d55fea9a73af36b6dd0be7b4117d8e5683386d39544e8a44c99a87f368707",
		129:  "4e1556b2e9a50a3cc9478f3254727b01065f9ac5d2c3a8b4cd538ae7240bb87d",
		1000: "6b0df76627243d095b0c4400cb658b7e804dd03461cc03aee8fc8fe0bcada168",
	} {
		if h := text(Sum(counted(n))); h != want {
			t.Errorf("Sum of %d bytes: %s, want %s", n, h, want)
		}
	}
}

// P2.1: each length of up to ten pieces and more, each single byte, and some longer texts.
func TestSumIsThatOfAnother(t *testing.T) {
	rnd := rand.New(rand.NewSource(1))
	var all [][]byte
	for n := range 700 {
		all = append(all, randomBytes(rnd, n), make([]byte, n), bytes.Repeat([]byte{0xff}, n))
	}
	for x := range 256 {
		all = append(all, []byte{byte(x)})
	}
	for range 30 {
		all = append(all, randomBytes(rnd, rnd.Intn(100000)))
	}
	for _, b := range all {
		if h, want := Sum(b), api.Hash(sha256.Sum256(b)); h != want {
			t.Errorf("Sum of %d bytes: %x, want %x", len(b), h, want)
		}
	}
}

// P2.1: from 2^29 bytes on the number of bits takes more than four bytes.
func TestSumOfSoManyBytes(t *testing.T) {
	if testing.Short() {
		t.Skip("long")
	}
	b := make([]byte, 1<<29+3)
	b[0], b[len(b)-1] = 1, 2
	if h, want := Sum(b), api.Hash(sha256.Sum256(b)); h != want {
		t.Errorf("Sum of %d bytes: %x, want %x", len(b), h, want)
	}
}

// P2.1: the constants are of the cube roots of the first 64 primes: of such a root, 32 bits moved left, is taken what the 32 lowest bits hold.
func TestConstants(t *testing.T) {
	n := 0
	for p := int64(2); p <= 311; p++ {
		if !big.NewInt(p).ProbablyPrime(0) {
			continue
		}
		root := cubeRoot(new(big.Int).Lsh(big.NewInt(p), 96))
		if want := uint32(root.Uint64()); constants[n] != want {
			t.Errorf("the constant %d, of %d: %x, want %x", n, p, constants[n], want)
		}
		n++
	}
	if n != len(constants) {
		t.Errorf("%d primes, %d constants", n, len(constants))
	}
}

// cubeRoot is the greatest whole number whose cube is no more than x.
func cubeRoot(x *big.Int) *big.Int {
	root := new(big.Int)
	for bit := x.BitLen(); bit >= 0; bit-- {
		more := new(big.Int).SetBit(root, bit, 1)
		if new(big.Int).Exp(more, big.NewInt(3), nil).Cmp(x) <= 0 {
			root = more
		}
	}
	return root
}

// P2.2: the chapter's examples, and those of RFC 4231.
func TestMacOfKnownBytes(t *testing.T) {
	count := make([]byte, 25)
	for i := range count {
		count[i] = byte(i + 1)
	}
	for _, x := range []struct {
		key, b []byte
		want   string
	}{
		{nil, nil, "b613679a0814d9ec772f95d778c35fc5ff1697c493715653c6c712144292c5ad"},
		{[]byte{}, []byte{}, "b613679a0814d9ec772f95d778c35fc5ff1697c493715653c6c712144292c5ad"},
		{[]byte("key"), []byte("The quick brown fox jumps over the lazy dog"), "f7bc83f430538424b13298e6aa6fb143ef4d59a14946175997479dbc2d1a3cd8"},
		{bytes.Repeat([]byte{0x0b}, 20), []byte("Hi There"), "b0344c61d8db38535ca8afceaf0bf12b881dc200c9833da726e9376c2e32cff7"},
		{[]byte("Jefe"), []byte("what do ya want for nothing?"), "5bdcc146bf60754e6a042426089575c75a003f089d2739839dec58b964ec3843"},
		{bytes.Repeat([]byte{0xaa}, 20), bytes.Repeat([]byte{0xdd}, 50), "773ea91e36800e46854db8ebd09181a72959098b3ef8c122d9635514ced565fe"},
		{count, bytes.Repeat([]byte{0xcd}, 50), "82558a389a443c0ea4cc819899f2083a85f0faa3e578f8077a2e3ff46729665b"},
		{bytes.Repeat([]byte{0xaa}, 131), []byte("Test Using Larger Than Block-Size Key - Hash Key First"), "60e431591ee0b67f0d8a26aacbf5b77f8e0bc6213728c5140546040f0ee37f54"},
		{bytes.Repeat([]byte{0xaa}, 131), []byte("This is a test using a larger than block-size key and a larger than block-size data. The key needs to be hashed before being used by the HMAC algorithm."), "9b09ffa71b942fcb27635fbcd5b0e944bfdc63644f0713938a7f51535c3a35e2"},
	} {
		if h := text(Mac(x.key, x.b)); h != x.want {
			t.Errorf("Mac(%.20x, %.20q): %s, want %s", x.key, x.b, h, x.want)
		}
	}
}

// P2.2: keys of each length up to three pieces, 0, 63, 64 and 65 among them, with texts at the edges of pieces.
func TestMacIsThatOfAnother(t *testing.T) {
	rnd := rand.New(rand.NewSource(2))
	var keys [][]byte
	for n := range 200 {
		keys = append(keys, randomBytes(rnd, n))
	}
	keys = append(keys, make([]byte, 64), make([]byte, 65), bytes.Repeat([]byte{0x36}, 64), bytes.Repeat([]byte{0x5c}, 64), randomBytes(rnd, 5000))
	for _, key := range keys {
		for _, n := range []int{0, 1, 55, 56, 63, 64, 65, 119, 120, 128, rnd.Intn(1000)} {
			b := randomBytes(rnd, n)
			h := Mac(key, b)
			if want := otherMac(key, b); h != want {
				t.Errorf("Mac of a key of %d bytes and %d bytes: %x, want %x", len(key), n, h, want)
			}
			if want := wordsMac(key, b); h != want {
				t.Errorf("Mac of a key of %d bytes and %d bytes: %x, by the promise's words %x", len(key), n, h, want)
			}
		}
	}
}

// P2.2: each length of a text.
func TestMacOfEachLength(t *testing.T) {
	rnd := rand.New(rand.NewSource(3))
	for n := range 400 {
		key, b := randomBytes(rnd, rnd.Intn(100)), randomBytes(rnd, n)
		if h, want := Mac(key, b), otherMac(key, b); h != want {
			t.Errorf("Mac of a key of %d bytes and %d bytes: %x, want %x", len(key), n, h, want)
		}
	}
}

// P2.2: a mac hangs on the key as well as on the text, which do not run into one another.
func TestMacTellsKeysAndTextsApart(t *testing.T) {
	seen := map[api.Hash]string{}
	s := strings.Repeat("groat", 30)
	for i := range len(s) {
		key, b := s[:i], s[i:]
		h := Mac([]byte(key), []byte(b))
		if was, ok := seen[h]; ok {
			t.Errorf("the keys %q and %q make the same mac of what is left", was, key)
		}
		seen[h] = key
	}
}

// P2.3: noughts behind a short key, up to 64 bytes.
func TestNoughtsBehindAKey(t *testing.T) {
	rnd := rand.New(rand.NewSource(4))
	for n := range 65 {
		key, b := randomBytes(rnd, n), randomBytes(rnd, rnd.Intn(200))
		want := Mac(key, b)
		for more := range 64 - n + 1 {
			if h := Mac(append(bytes.Clone(key), make([]byte, more)...), b); h != want {
				t.Errorf("%d noughts behind a key of %d bytes: %x, want %x", more, n, h, want)
			}
		}
	}
}

// P2.3: there is room for noughts up to 64 bytes, and only behind a key.
func TestNoughtsWithoutRoom(t *testing.T) {
	rnd := rand.New(rand.NewSource(5))
	for _, n := range []int{1, 20, 63, 64, 65, 100} {
		key, b := randomBytes(rnd, n), randomBytes(rnd, 30)
		want := Mac(key, b)
		past := append(bytes.Clone(key), make([]byte, max(65-n, 1))...)
		if Mac(past, b) == want {
			t.Errorf("a key of %d bytes, noughts behind up to %d: the same mac", n, len(past))
		}
		if Mac(append([]byte{0}, key...), b) == want {
			t.Errorf("a nought ahead of a key of %d bytes: the same mac", n)
		}
	}
}

// P2.3: a key of more than 64 bytes, and its Sum; one of 64 stands as it is.
func TestLongKeysAndTheirSums(t *testing.T) {
	rnd := rand.New(rand.NewSource(6))
	for n := 60; n < 300; n++ {
		key, b := randomBytes(rnd, n), randomBytes(rnd, rnd.Intn(200))
		sum := Sum(key)
		if same := Mac(key, b) == Mac(sum[:], b); same != (n > 64) {
			t.Errorf("a key of %d bytes and its Sum: the same mac: %t", n, same)
		}
	}
}

// R6: what is handed in is left as it is, and what stands behind its length isn't read.
func TestBytesAreLeft(t *testing.T) {
	rnd := rand.New(rand.NewSource(7))
	for _, n := range []int{0, 10, 20, 55, 56, 63, 64, 65, 100} {
		keys, whole := randomBytes(rnd, 200), randomBytes(rnd, 200)
		keysWere, wholeWas := bytes.Clone(keys), bytes.Clone(whole)
		key, b := keys[:n], whole[:n]
		sum, mac := Sum(b), Mac(key, b)
		if !bytes.Equal(keys, keysWere) || !bytes.Equal(whole, wholeWas) {
			t.Errorf("%d bytes: they, or those behind them, were changed", n)
		}
		for i := n; i < 200; i++ {
			keys[i]++
			whole[i]++
		}
		if Sum(b) != sum || Mac(key, b) != mac {
			t.Errorf("%d bytes: those behind them were read", n)
		}
	}
}

// A key may be the text's own memory, or a piece of it.
func TestKeyWithinTheText(t *testing.T) {
	b := counted(150)
	for _, key := range [][]byte{b, b[:64], b[64:], b[3:9]} {
		want := otherMac(slices.Clone(key), slices.Clone(b))
		if h := Mac(key, b); h != want {
			t.Errorf("a key of %d bytes within the text: %x, want %x", len(key), h, want)
		}
	}
}

// Nothing is kept from call to call.
func TestCallsLeaveNothing(t *testing.T) {
	sum, mac := Sum([]byte("abc")), Mac([]byte("k"), []byte("abc"))
	for n := range 140 {
		Sum(counted(n))
		Mac(counted(n), counted(140-n))
		if Sum([]byte("abc")) != sum || Mac([]byte("k"), []byte("abc")) != mac {
			t.Fatalf("behind calls with %d bytes: another answer", n)
		}
	}
}
