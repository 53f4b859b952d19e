package seal_test

import (
	"bytes"
	"crypto/sha256"
	"encoding/hex"
	"math/rand"
	"slices"
	"testing"

	"erewhile/api"
	"erewhile/seal"
	"erewhile/sha"
)

// plainSum goes through the document's steps, one by one.
func plainSum(k api.Key, b []byte) api.Sum {
	inner := sha256.Sum256(slices.Concat(k[:], b))
	outer := sha256.Sum256(slices.Concat(k[:], inner[:]))
	return api.Sum(outer[:16])
}

// plainChain is so, too.
func plainChain(prev api.Sum, b []byte) api.Sum {
	all := sha256.Sum256(slices.Concat(prev[:], b))
	return api.Sum(all[:16])
}

// text is a row of bytes of which hardly two pieces are alike.
func text(size int) []byte {
	b := make([]byte, size)
	for i := range b {
		b[i] = byte(i*i>>3 + 7*i + i>>8)
	}
	return b
}

// sizes are none, few, those around each end of a block of the hash (behind 16 bytes of a sum and 32 of a key), and many.
func sizes() []int {
	l := []int{1000, 4096, 65535, 65536, 1 << 20}
	for n := range 200 {
		l = append(l, n)
	}
	return l
}

// keys are all noughts, all bits, and some with one bit or one byte that stands out at an end.
func keys() []api.Key {
	var l []api.Key
	l = append(l, api.Key{}, api.Key(bytes.Repeat([]byte{255}, 32)), api.Key(text(32)))
	l = append(l, api.Key{0: 1}, api.Key{0: 128}, api.Key{15: 1}, api.Key{16: 1}, api.Key{31: 1}, api.Key{31: 128})
	return l
}

func sumFromHex(t *testing.T, text string) api.Sum {
	t.Helper()
	b, err := hex.DecodeString(text)
	if err != nil || len(b) != 16 {
		t.Fatal(text, err)
	}
	return api.Sum(b)
}

// P4.1

func TestChainOfNoughtsAndNoBytes(t *testing.T) {
	want := sumFromHex(t, "374708fff7719dd5979ec875d56cd228")
	for _, none := range [][]byte{nil, {}} {
		if got := seal.Chain(api.Sum{}, none); got != want {
			t.Errorf("%x", got)
		}
	}
}

func TestSumIsTheBeginningOfTheOuterHash(t *testing.T) {
	for _, k := range keys() {
		for _, n := range sizes() {
			if n > 4096 && k != (api.Key{}) {
				continue
			}
			b := text(n)
			if got, want := seal.Sum(k, b), plainSum(k, b); got != want {
				t.Fatalf("key %x, %d bytes: %x, not %x", k, n, got, want)
			}
		}
	}
}

func TestSumOfNothing(t *testing.T) {
	for _, k := range keys() {
		want := plainSum(k, nil)
		if seal.Sum(k, nil) != want || seal.Sum(k, []byte{}) != want {
			t.Errorf("key %x", k)
		}
	}
}

func TestSumIsMadeOfLayer3(t *testing.T) {
	k, b := api.Key(text(32)), text(77)
	inner := sha.Sum(slices.Concat(k[:], b))
	outer := sha.Sum(slices.Concat(k[:], inner[:]))
	if seal.Sum(k, b) != api.Sum(outer[:16]) {
		t.Error("not the first 16 bytes")
	}
	if seal.Sum(k, b) == api.Sum(inner[:16]) {
		t.Error("the inner hash was told")
	}
}

// A key's last bytes aren't taken as the text's first ones.
func TestKeyAndTextAreTwoThings(t *testing.T) {
	b := text(64)
	if seal.Sum(api.Key(b[:32]), b[32:]) == seal.Sum(api.Key(b[32:]), b[:32]) {
		t.Error("the key and the text were told as one another")
	}
	if seal.Sum(api.Key{}, []byte{0}) == seal.Sum(api.Key{}, nil) {
		t.Error("a nought behind the key doesn't count")
	}
}

func TestSumsOfRandomTexts(t *testing.T) {
	random := rand.New(rand.NewSource(4))
	for range 500 {
		var k api.Key
		var s api.Sum
		random.Read(k[:])
		random.Read(s[:])
		b := make([]byte, random.Intn(300))
		random.Read(b)
		if seal.Sum(k, b) != plainSum(k, b) || seal.Chain(s, b) != plainChain(s, b) {
			t.Fatalf("%x %x %x", k, s, b)
		}
	}
}

func TestRightOfTheSum(t *testing.T) {
	for _, k := range keys() {
		for n := range 130 {
			if !seal.Right(k, text(n), plainSum(k, text(n))) {
				t.Fatalf("key %x, %d bytes", k, n)
			}
		}
	}
}

// Each bit of a sum counts, of the first byte as of the last.
func TestRightOfASumWithAnotherBit(t *testing.T) {
	k, b := api.Key(text(32)), text(99)
	for bit := range 128 {
		s := plainSum(k, b)
		s[bit/8] ^= 1 << (bit % 8)
		if seal.Right(k, b, s) {
			t.Errorf("bit %d", bit)
		}
	}
}

func TestRightOfAnotherKeyOrText(t *testing.T) {
	k, b := api.Key(text(32)), text(99)
	s := plainSum(k, b)
	for bit := range 256 {
		other := k
		other[bit/8] ^= 1 << (bit % 8)
		if seal.Right(other, b, s) {
			t.Errorf("the key's bit %d", bit)
		}
	}
	for bit := range 8 * len(b) {
		other := slices.Clone(b)
		other[bit/8] ^= 1 << (bit % 8)
		if seal.Right(k, other, s) {
			t.Errorf("the text's bit %d", bit)
		}
	}
	for n := range len(b) {
		if seal.Right(k, b[:n], s) || seal.Right(k, b[n+1:], s) {
			t.Errorf("%d bytes", n)
		}
	}
}

// A sum of noughts is right of nothing just because it is a zero value.
func TestRightOfNoughts(t *testing.T) {
	for _, k := range keys() {
		for _, b := range [][]byte{nil, {}, {0}, make([]byte, 16), make([]byte, 32)} {
			if seal.Right(k, b, api.Sum{}) {
				t.Errorf("key %x, %d bytes", k, len(b))
			}
			if !seal.Right(k, b, plainSum(k, b)) {
				t.Errorf("key %x, %d bytes: not its own sum", k, len(b))
			}
		}
	}
}

func TestRightIsNeitherOfTheInnerHashNorOfTheEnd(t *testing.T) {
	k, b := api.Key(text(32)), text(20)
	inner := sha256.Sum256(slices.Concat(k[:], b))
	outer := sha256.Sum256(slices.Concat(k[:], inner[:]))
	if seal.Right(k, b, api.Sum(inner[:16])) || seal.Right(k, b, api.Sum(outer[16:])) {
		t.Error("another sum is told as right")
	}
}

func TestChainIsTheBeginningOfTheHash(t *testing.T) {
	sums := []api.Sum{{}, api.Sum(text(16)), api.Sum(bytes.Repeat([]byte{255}, 16)), {0: 1}, {15: 128}}
	for _, prev := range sums {
		for _, n := range sizes() {
			if n > 4096 && prev != (api.Sum{}) {
				continue
			}
			b := text(n)
			if got, want := seal.Chain(prev, b), plainChain(prev, b); got != want {
				t.Fatalf("sum %x, %d bytes: %x, not %x", prev, n, got, want)
			}
		}
	}
}

// A chain hangs on all that was put to it, and on the order.
func TestChainsOfChains(t *testing.T) {
	a, b := []byte("a"), []byte("b")
	var zero api.Sum
	ab := seal.Chain(seal.Chain(zero, a), b)
	if ab != plainChain(plainChain(zero, a), b) {
		t.Errorf("%x", ab)
	}
	others := []api.Sum{
		seal.Chain(seal.Chain(zero, b), a),
		seal.Chain(zero, []byte("ab")),
		seal.Chain(zero, b),
		seal.Chain(seal.Chain(seal.Chain(zero, a), nil), b),
	}
	if slices.Contains(others, ab) {
		t.Errorf("%x is among %x", ab, others)
	}
}

// Nothing that is handed in is changed, and nothing behind a list's length is read or written.
func TestWhatIsHandedInStays(t *testing.T) {
	room := text(200)
	b := room[:70]
	k, s := api.Key(text(32)), api.Sum(text(16))
	sum, chain := plainSum(k, b), plainChain(s, b)
	for range 2 {
		if seal.Sum(k, b) != sum || !seal.Right(k, b, sum) || seal.Chain(s, b) != chain {
			t.Fatal("another answer")
		}
		if !bytes.Equal(room, text(200)) {
			t.Fatal("the room was written over")
		}
	}
	clear(room[70:])
	if seal.Sum(k, b) != sum || seal.Chain(s, b) != chain {
		t.Error("an answer hangs on what lies behind the length")
	}
}

// An answer hangs on nothing that was asked ahead of it.
func TestAskedAgain(t *testing.T) {
	k, b := api.Key(text(32)), text(50)
	sum, chain := seal.Sum(k, b), seal.Chain(api.Sum{}, b)
	seal.Sum(api.Key{}, text(1000))
	seal.Right(api.Key{}, text(3), api.Sum{})
	seal.Chain(sum, text(64))
	if seal.Sum(k, b) != sum || seal.Chain(api.Sum{}, b) != chain {
		t.Error("another answer")
	}
}
