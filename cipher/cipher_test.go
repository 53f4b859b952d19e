package cipher_test

import (
	"bytes"
	"crypto/sha256"
	"encoding/hex"
	"math"
	"math/rand"
	"slices"
	"testing"

	"erewhile/api"
	"erewhile/chacha"
	"erewhile/cipher"
	"erewhile/seal"
	"erewhile/wire"
)

// The real cipher is one that is handed on, as it is and by its address.
var _, _ api.Cipher = cipher.Real{}, &cipher.Real{}

// text is a row of bytes of which hardly two pieces are alike.
func text(size int) []byte {
	b := make([]byte, size)
	for i := range b {
		b[i] = byte(i*i>>3 + 5*i + i>>8 + 1)
	}
	return b
}

// keys are all noughts, all bits, one of many bytes, and some with one bit that stands out at an end.
func keys() []api.Key {
	return []api.Key{
		{}, api.Key(bytes.Repeat([]byte{255}, 32)), api.Key(text(32)),
		{0: 1}, {0: 128}, {15: 1}, {16: 1}, {31: 1}, {31: 128},
	}
}

// numbers are small ones, those around the ends of 16, 32 and 63 bits, and the greatest.
func numbers() []uint64 {
	return []uint64{
		0, 1, 2, 255, 256, api.MaxNum, api.MaxNum + 1, math.MaxUint32, 1 << 32, 1<<32 + 1,
		api.MaxNum + 1<<32, math.MaxInt64, 1 << 63, math.MaxUint64 - 1, math.MaxUint64,
	}
}

func fromHex(t *testing.T, s string) []byte {
	t.Helper()
	b, err := hex.DecodeString(s)
	if err != nil || len(b) != 32 {
		t.Fatal(s, err)
	}
	return b
}

// P5.1

// What RFC 8439 tells of its cipher in A.1, cut to its first half.
func TestPadTellsWhatTheRFCTells(t *testing.T) {
	for _, c := range []struct {
		n    uint64
		want string
	}{
		{0, "76b8e0ada0f13d90405d6ae55386bd28bdd219b8a08ded1aa836efcc8b770dc7"},
		{2 << 56, "c2c64d378cd536374ae204b9ef933fcd1a8b2288b3dfa49672ab765b54ee27c7"},
	} {
		if got := (cipher.Real{}).Pad(api.Key{}, c.n); got != api.Block(fromHex(t, c.want)) {
			t.Errorf("Pad of noughts and %x: %x, not %s", c.n, got, c.want)
		}
	}
}

func TestPadIsTheBeginningOfTheFirstBlock(t *testing.T) {
	for _, k := range keys() {
		for _, n := range numbers() {
			block := chacha.Block(k, 0, n)
			if got := (cipher.Real{}).Pad(k, n); got != api.Block(block[:32]) {
				t.Errorf("Pad(%x, %x) = %x, not %x", k, n, got, block[:32])
			}
		}
	}
}

func TestPadHangsOnEachBitOfItsKeyAndNumber(t *testing.T) {
	seen := map[api.Block]bool{}
	look := func(k api.Key, n uint64) {
		got := (cipher.Real{}).Pad(k, n)
		if seen[got] {
			t.Errorf("Pad(%x, %x) was seen already", k, n)
		}
		seen[got] = true
	}
	look(api.Key(text(32)), 0)
	for bit := range 256 {
		k := api.Key(text(32))
		k[bit/8] ^= 1 << (bit % 8)
		look(k, 0)
	}
	for bit := range 64 {
		look(api.Key(text(32)), 1<<bit)
	}
}

// What RFC 8439 tells of its cipher in A.1, with counter 1.
func TestSplitTellsWhatTheRFCTells(t *testing.T) {
	for _, c := range []struct {
		k           api.Key
		left, right string
	}{
		{
			api.Key{},
			"9f07e7be5551387a98ba977c732d080dcb0f29a048e3656912c6533e32ee7aed",
			"29b721769ce64e43d57133b074d839d531ed1f28510afb45ace10a1f4b794d6f",
		},
		{
			api.Key{31: 1},
			"3aeb5224ecf849929b9d828db1ced4dd832025e8018b8160b82284f3c949aa5a",
			"8eca00bbb4a73bdad192b5c42f73f2fd4e273644c8b36125a64addeb006c13a0",
		},
	} {
		left, right := cipher.Real{}.Split(c.k)
		if left != api.Key(fromHex(t, c.left)) || right != api.Key(fromHex(t, c.right)) {
			t.Errorf("Split(%x) = %x, %x", c.k, left, right)
		}
	}
}

func TestSplitTellsTheHalvesOfTheSecondBlock(t *testing.T) {
	for _, k := range keys() {
		block := chacha.Block(k, 1, 0)
		left, right := cipher.Real{}.Split(k)
		if left != api.Key(block[:32]) || right != api.Key(block[32:]) {
			t.Errorf("Split(%x) = %x, %x, not %x", k, left, right, block)
		}
	}
}

// No half stands elsewhere: in the key, in the other half, in a half of another key, or in a pad.
func TestHalvesAreKeysOfTheirOwn(t *testing.T) {
	seen := map[api.Key]bool{}
	look := func(k api.Key) {
		if seen[k] {
			t.Errorf("%x was seen already", k)
		}
		seen[k] = true
	}
	for bit := range 256 {
		k := api.Key(text(32))
		k[bit/8] ^= 1 << (bit % 8)
		left, right := cipher.Real{}.Split(k)
		look(k)
		look(left)
		look(right)
		for _, n := range numbers() {
			look(api.Key(cipher.Real{}.Pad(k, n)))
		}
	}
}

// plainSum goes through layer 4's steps, one by one.
func plainSum(k api.Key, b []byte) api.Sum {
	inner := sha256.Sum256(slices.Concat(k[:], b))
	outer := sha256.Sum256(slices.Concat(k[:], inner[:]))
	return api.Sum(outer[:16])
}

func TestSumIsLayer4s(t *testing.T) {
	for _, k := range keys() {
		for _, n := range []int{0, 1, 15, 16, 31, 32, 33, 63, 64, 65, 96, 128, 1000, 65536} {
			b := text(n)
			got := cipher.Real{}.Sum(k, b)
			if got != plainSum(k, b) || got != seal.Sum(k, b) {
				t.Errorf("key %x, %d bytes: %x, not %x", k, n, got, plainSum(k, b))
			}
		}
		if (cipher.Real{}).Sum(k, nil) != plainSum(k, nil) {
			t.Errorf("key %x: of nothing", k)
		}
	}
}

func TestSumReadsNothingBehindTheLengthAndChangesNothing(t *testing.T) {
	room := text(100)
	want := plainSum(api.Key{7}, room[:40])
	if got := (cipher.Real{}).Sum(api.Key{7}, room[:40]); got != want {
		t.Errorf("%x, not %x", got, want)
	}
	if !bytes.Equal(room, text(100)) {
		t.Error("the room was written over")
	}
	clear(room[40:])
	if got := (cipher.Real{}).Sum(api.Key{7}, room[:40]); got != want {
		t.Error("the sum hangs on what lies behind the length")
	}
}

func TestRealOfRandomKeys(t *testing.T) {
	random := rand.New(rand.NewSource(5))
	var c cipher.Real
	for range 500 {
		var k api.Key
		random.Read(k[:])
		n, b := random.Uint64(), make([]byte, random.Intn(200))
		random.Read(b)
		given := k
		first, second := chacha.Block(k, 0, n), chacha.Block(k, 1, 0)
		for range 2 { // asked again, it tells the same
			pad, sum := c.Pad(k, n), c.Sum(k, b)
			left, right := c.Split(k)
			if pad != api.Block(first[:32]) || left != api.Key(second[:32]) || right != api.Key(second[32:]) || sum != plainSum(k, b) || k != given {
				t.Fatalf("key %x, number %x, bytes %x", k, n, b)
			}
		}
	}
}

// P5.2

// asked is a cipher that remembers what it was asked for; all its pads are the same one.
type asked struct {
	pad    api.Block
	keys   []api.Key
	nums   []uint64
	others int
}

func (a *asked) Pad(k api.Key, n uint64) api.Block {
	a.keys, a.nums = append(a.keys, k), append(a.nums, n)
	return a.pad
}

func (a *asked) Split(k api.Key) (left, right api.Key) {
	a.others++
	return k, k
}

func (a *asked) Sum(api.Key, []byte) (s api.Sum) {
	a.others++
	return s
}

func TestHideXorsEachByteWithThatOfThePad(t *testing.T) {
	for _, k := range keys() {
		for _, n := range numbers() {
			pad := cipher.Real{}.Pad(k, n)
			for size := 0; size <= 32; size++ {
				b := text(size)
				got := cipher.Hide(cipher.Real{}, k, n, b)
				if len(got) != size || !bytes.Equal(got, wire.Xor(b, pad[:])) {
					t.Fatalf("key %x, number %x: %x, of %x", k, n, got, b)
				}
				if again := cipher.Hide(cipher.Real{}, k, n, got); !bytes.Equal(again, b) {
					t.Fatalf("key %x, number %x: hidden twice, %x is %x", k, n, b, again)
				}
			}
		}
	}
}

// The bytes of a key of noughts, by hand: 'a' is 0x61, 0x61 xor 0x76 is 0x17.
func TestHideByHand(t *testing.T) {
	if got := cipher.Hide(cipher.Real{}, api.Key{}, 0, []byte("abc")); !bytes.Equal(got, []byte{0x17, 0xda, 0x83}) {
		t.Errorf("%x", got)
	}
	pads := asked{pad: api.Block{0: 0xff, 1: 0x0f, 31: 0xf0}}
	b := make([]byte, 32)
	b[0], b[1], b[2], b[31] = 0x55, 0x33, 0x77, 0xaa
	want := slices.Clone(b)
	want[0], want[1], want[31] = 0xaa, 0x3c, 0x5a
	if got := cipher.Hide(&pads, api.Key{}, 0, b); !bytes.Equal(got, want) {
		t.Errorf("%x, not %x", got, want)
	}
}

func TestHideByACipherOfNoughts(t *testing.T) {
	for size := 0; size <= 32; size++ {
		if got := cipher.Hide(&asked{}, api.Key{3}, 4, text(size)); !bytes.Equal(got, text(size)) {
			t.Errorf("%d bytes: %x", size, got)
		}
	}
}

func TestHideByTheCipherThatIsHandedIn(t *testing.T) {
	pads := asked{pad: api.Block(bytes.Repeat([]byte{255}, 32))}
	for size := 0; size <= 32; size++ {
		b := text(size)
		got := cipher.Hide(&pads, api.Key(text(32)), 9, b)
		for i := range got {
			if got[i] != ^b[i] {
				t.Fatalf("%d bytes: %x, of %x", size, got, b)
			}
		}
		if len(got) != size {
			t.Errorf("%d bytes, not %d", len(got), size)
		}
	}
}

func TestHideAsksForOnePadAndForNothingElse(t *testing.T) {
	for _, k := range keys() {
		for _, n := range numbers() {
			for _, b := range [][]byte{nil, {}, {0}, text(1), text(16), text(31), text(32)} {
				var a asked
				cipher.Hide(&a, k, n, b)
				if !slices.Equal(a.keys, []api.Key{k}) || !slices.Equal(a.nums, []uint64{n}) || a.others != 0 {
					t.Fatalf("key %x, number %x, %d bytes: %+v", k, n, len(b), a)
				}
			}
		}
	}
}

func TestHideTellsNoneOfLongerRows(t *testing.T) {
	for _, size := range []int{33, 34, 63, 64, 65, 128, 256, 256 + 32, 65536, 65536 + 1, 1 << 20} {
		for _, k := range keys() {
			if got := cipher.Hide(cipher.Real{}, k, 9, make([]byte, size)); len(got) != 0 {
				t.Errorf("%d bytes: %d are told", size, len(got))
			}
		}
		if got := cipher.Hide(&asked{}, api.Key{1}, 9, text(size)); len(got) != 0 {
			t.Errorf("%d bytes, by another cipher: %d are told", size, len(got))
		}
	}
}

func TestHideTellsNoneByNoCipher(t *testing.T) {
	var none api.Cipher
	for _, size := range []int{0, 1, 31, 32, 33, 64, 1 << 20} {
		for _, k := range keys() {
			if got := cipher.Hide(none, k, 9, text(size)); len(got) != 0 {
				t.Errorf("%d bytes: %d are told", size, len(got))
			}
		}
	}
	if got := cipher.Hide(nil, api.Key{}, 0, nil); len(got) != 0 {
		t.Errorf("%x", got)
	}
}

func TestHideTellsNoneOfNone(t *testing.T) {
	for _, b := range [][]byte{nil, {}, text(9)[:0]} {
		if got := cipher.Hide(cipher.Real{}, api.Key{1}, 1, b); len(got) != 0 {
			t.Errorf("%x", got)
		}
	}
}

// What was hidden by one key or number isn't told by another one.
func TestHideHangsOnItsKeyAndNumber(t *testing.T) {
	b := text(32)
	hidden := cipher.Hide(cipher.Real{}, api.Key{1}, 1, b)
	for bit := range 256 {
		k := api.Key{1}
		k[bit/8] ^= 1 << (bit % 8)
		if bytes.Equal(cipher.Hide(cipher.Real{}, k, 1, hidden), b) {
			t.Errorf("the key's bit %d", bit)
		}
	}
	for bit := range 64 {
		if bytes.Equal(cipher.Hide(cipher.Real{}, api.Key{1}, 1^1<<bit, hidden), b) {
			t.Errorf("the number's bit %d", bit)
		}
	}
}

// The room that lies behind a row's length is neither read nor written, and counts for nothing.
func TestHideReadsAndWritesNothingBehindTheLength(t *testing.T) {
	for size := 0; size <= 32; size++ {
		room := text(100)
		want := cipher.Hide(cipher.Real{}, api.Key{1}, 2, text(size))
		got := cipher.Hide(cipher.Real{}, api.Key{1}, 2, room[:size])
		if !bytes.Equal(got, want) || !bytes.Equal(room, text(100)) {
			t.Fatalf("%d bytes: %x, not %x", size, got, want)
		}
		clear(room[size:])
		if got := cipher.Hide(cipher.Real{}, api.Key{1}, 2, room[:size]); !bytes.Equal(got, want) {
			t.Errorf("%d bytes: %x, not %x", size, got, want)
		}
	}
}

func TestHideTellsNewMemory(t *testing.T) {
	for _, c := range []api.Cipher{cipher.Real{}, &asked{}} {
		for size := 1; size <= 32; size++ {
			room := text(64)
			b := room[:size]
			first, second := cipher.Hide(c, api.Key{1}, 2, b), cipher.Hide(c, api.Key{1}, 2, b)
			want := slices.Clone(first)
			clear(first[:cap(first)])
			if !bytes.Equal(room, text(64)) || !bytes.Equal(second, want) {
				t.Fatalf("%d bytes: a write over an answer changed something else", size)
			}
			clear(room)
			if !bytes.Equal(second, want) {
				t.Fatalf("%d bytes: the answer changed with the row", size)
			}
		}
	}
}
