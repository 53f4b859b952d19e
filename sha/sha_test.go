package sha_test

import (
	"bytes"
	"crypto/sha256"
	"encoding/binary"
	"encoding/hex"
	"math"
	"math/big"
	"math/rand"
	"slices"
	"strings"
	"testing"

	"erewhile/api"
	"erewhile/sha"
)

// primes are the first so many.
func primes(many int) []int64 {
	var l []int64
	for n := int64(2); len(l) < many; n++ {
		if !slices.ContainsFunc(l, func(p int64) bool { return n%p == 0 }) {
			l = append(l, n)
		}
	}
	return l
}

// behindThePoint is the first 32 bits of what the n-th root of p has behind the point.
func behindThePoint(p int64, n int) uint32 {
	whole := new(big.Int).Lsh(big.NewInt(p), uint(32*n))
	power := func(x uint64) *big.Int {
		return new(big.Int).Exp(new(big.Int).SetUint64(x), big.NewInt(int64(n)), nil)
	}
	var root uint64 // the greatest whose power isn't above p * 2^(32n)
	for bit := uint64(1) << 40; bit > 0; bit >>= 1 {
		if power(root|bit).Cmp(whole) <= 0 {
			root |= bit
		}
	}
	return uint32(root)
}

func plainFirstWords() [8]uint32 {
	var s [8]uint32
	for i, p := range primes(8) {
		s[i] = behindThePoint(p, 2)
	}
	return s
}

var plainRoundWords = func() [64]uint32 {
	var k [64]uint32
	for i, p := range primes(64) {
		k[i] = behindThePoint(p, 3)
	}
	return k
}()

func plainR(x uint32, n int) uint32 { return x>>n | x<<(32-n) }

// plainCompress goes through the document's steps, one by one.
func plainCompress(words [8]uint32, block [64]byte) [8]uint32 {
	var w [64]uint32
	for t := range w {
		if t < 16 {
			w[t] = binary.BigEndian.Uint32(block[4*t:])
			continue
		}
		x := w[t-15]
		s0 := plainR(x, 7) ^ plainR(x, 18) ^ x>>3
		x = w[t-2]
		s1 := plainR(x, 17) ^ plainR(x, 19) ^ x>>10
		w[t] = s1 + w[t-7] + s0 + w[t-16]
	}
	const a, b, c, d, e, f, g, h = 0, 1, 2, 3, 4, 5, 6, 7
	s := words
	for t := range 64 {
		t1 := s[h] + (plainR(s[e], 6) ^ plainR(s[e], 11) ^ plainR(s[e], 25)) + ((s[e] & s[f]) ^ (^s[e] & s[g])) + plainRoundWords[t] + w[t]
		t2 := (plainR(s[a], 2) ^ plainR(s[a], 13) ^ plainR(s[a], 22)) + ((s[a] & s[b]) ^ (s[a] & s[c]) ^ (s[b] & s[c]))
		s[h] = s[g]
		s[g] = s[f]
		s[f] = s[e]
		s[e] = s[d] + t1
		s[d] = s[c]
		s[c] = s[b]
		s[b] = s[a]
		s[a] = t1 + t2
	}
	for i := range s {
		s[i] += words[i]
	}
	return s
}

// plainPad looks for the fewest noughts.
func plainPad(b []byte) []byte {
	out := append(slices.Clone(b), 128)
	for (len(out)+8)%64 != 0 {
		out = append(out, 0)
	}
	return binary.BigEndian.AppendUint64(out, uint64(len(b))*8)
}

// text is a row of bytes of which hardly two pieces are alike.
func text(size int) []byte {
	b := make([]byte, size)
	for i := range b {
		b[i] = byte(i*i>>3 + 7*i + i>>8)
	}
	return b
}

func fromHex(t *testing.T, text string) []byte {
	t.Helper()
	b, err := hex.DecodeString(text)
	if err != nil {
		t.Fatal(err)
	}
	return b
}

// wordsFromHex tells the words of a row in hexadecimal.
func wordsFromHex(t *testing.T, text string) [8]uint32 {
	t.Helper()
	b := fromHex(t, text)
	var s [8]uint32
	for i := range s {
		s[i] = binary.BigEndian.Uint32(b[4*i:])
	}
	return s
}

// P3.1

func TestPadOfShortTexts(t *testing.T) {
	for _, c := range []struct {
		b    []byte
		want []byte
	}{
		{nil, slices.Concat([]byte{128}, make([]byte, 63))},
		{[]byte{}, slices.Concat([]byte{128}, make([]byte, 63))},
		{[]byte("abc"), slices.Concat([]byte("abc\x80"), make([]byte, 59), []byte{24})},
		{[]byte{0}, slices.Concat([]byte{0, 128}, make([]byte, 61), []byte{8})},
		{[]byte{128}, slices.Concat([]byte{128, 128}, make([]byte, 61), []byte{8})},
		// The last text that has room in one block, and the first one that hasn't.
		{text(55), slices.Concat(text(55), []byte{128}, make([]byte, 6), []byte{1, 184})},
		{text(56), slices.Concat(text(56), []byte{128}, make([]byte, 69), []byte{1, 192})},
		{text(63), slices.Concat(text(63), []byte{128}, make([]byte, 62), []byte{1, 248})},
		{text(64), slices.Concat(text(64), []byte{128}, make([]byte, 61), []byte{2, 0})},
	} {
		if got := sha.Pad(c.b); !bytes.Equal(got, c.want) {
			t.Errorf("Pad of %d bytes = %x, not %x", len(c.b), got, c.want)
		}
	}
}

func TestPadOfAllSizes(t *testing.T) {
	whole := text(1 << 20)
	sizes := []int{8191, 8192, 8193, 1 << 16, 1<<20 - 9, 1<<20 - 8, 1 << 20} // their bits need 2 and 3 bytes
	for n := range 400 {
		sizes = append(sizes, n)
	}
	for _, n := range sizes {
		got := sha.Pad(whole[:n])
		if want := plainPad(whole[:n]); !bytes.Equal(got, want) {
			t.Errorf("Pad of %d bytes has %d, or others than those asked for, which are %d", n, len(got), len(want))
		}
	}
}

func TestPadTellsNewMemory(t *testing.T) {
	for _, n := range []int{0, 1, 55, 56, 64, 100, 128} {
		all := text(n + 200) // all but n of these lie behind the text's length
		got := sha.Pad(all[:n])
		if want := plainPad(text(n)); !bytes.Equal(got, want) {
			t.Errorf("Pad of %d bytes = %x, not %x", n, got, want)
		}
		clear(got[:cap(got)])
		if !bytes.Equal(all, text(n+200)) {
			t.Errorf("Pad of %d bytes changed what was handed in, or what lies behind it", n)
		}
		got = sha.Pad(all[:n])
		clear(all)
		if !bytes.Equal(got, plainPad(text(n))) {
			t.Errorf("Pad of %d bytes changed with them", n)
		}
	}
}

// P3.2

func TestCompressTellsWhatTheStandardTells(t *testing.T) {
	first := wordsFromHex(t, "6a09e667bb67ae853c6ef372a54ff53a510e527f9b05688c1f83d9ab5be0cd19")
	for _, c := range []struct {
		words [8]uint32
		block string
		want  string
	}{
		// abc, padded.
		{first, "61626380" + strings.Repeat("0", 118) + "18", "ba7816bf8f01cfea414140de5dae2223b00361a396177a9cb410ff61f20015ad"},
		// The two blocks of abcdbcde.., of which the second one has nothing but the length.
		{first, "6162636462636465636465666465666765666768666768696768696a68696a6b696a6b6c6a6b6c6d6b6c6d6e6c6d6e6f6d6e6f706e6f70718000000000000000", "85e655d6417a17953363376a624cde5c76e09589cac5f811cc4b32c1f20e533a"},
		{wordsFromHex(t, "85e655d6417a17953363376a624cde5c76e09589cac5f811cc4b32c1f20e533a"), strings.Repeat("0", 125) + "1c0", "248d6a61d20638b8e5c026930c3e6039a33ce45964ff2167f6ecedd419db06c1"},
	} {
		block := [64]byte(fromHex(t, c.block))
		if got := sha.Compress(c.words, block); got != wordsFromHex(t, c.want) {
			t.Errorf("Compress(%08x, %s) = %08x, not %s", c.words, c.block, got, c.want)
		}
	}
}

func TestCompressHangsOnEachBit(t *testing.T) {
	seen := map[[8]uint32]bool{}
	look := func(words [8]uint32, block [64]byte) {
		got := sha.Compress(words, block)
		if want := plainCompress(words, block); got != want {
			t.Errorf("Compress(%08x, %x) = %08x, not %08x", words, block, got, want)
		}
		if seen[got] {
			t.Errorf("Compress(%08x, %x) was seen already", words, block)
		}
		seen[got] = true
	}
	look([8]uint32{}, [64]byte{})
	for bit := range 8 * 32 {
		var words [8]uint32
		words[bit/32] = 1 << (bit % 32)
		look(words, [64]byte{})
	}
	for bit := range 64 * 8 {
		var block [64]byte
		block[bit/8] = 1 << (bit % 8)
		look([8]uint32{}, block)
	}
}

func TestCompressAddsModulo2To32(t *testing.T) {
	var words [8]uint32
	for i := range words {
		words[i] = math.MaxUint32
	}
	for _, block := range [][64]byte{{}, [64]byte(bytes.Repeat([]byte{255}, 64)), [64]byte(bytes.Repeat([]byte{128, 0, 0, 0}, 16))} {
		if got, want := sha.Compress(words, block), plainCompress(words, block); got != want {
			t.Errorf("Compress of full words and %x = %08x, not %08x", block, got, want)
		}
	}
}

func TestCompressOfManyBlocks(t *testing.T) {
	r := rand.New(rand.NewSource(32))
	for range 500 {
		var words [8]uint32
		var block [64]byte
		for i := range words {
			words[i] = r.Uint32()
		}
		r.Read(block[:])
		got, want := sha.Compress(words, block), plainCompress(words, block)
		if got != want {
			t.Fatalf("Compress(%08x, %x) = %08x, not %08x", words, block, got, want)
		}
		if again := sha.Compress(words, block); again != got {
			t.Fatalf("asked again: %08x, not %08x", again, got)
		}
	}
}

// P3.3

func TestSumTellsWhatTheStandardTells(t *testing.T) {
	for _, c := range []struct{ text, want string }{
		{"", "e3b0c44298fc1c149afbf4c8996fb92427ae41e4649b934ca495991b7852b855"},
		{"abc", "ba7816bf8f01cfea414140de5dae2223b00361a396177a9cb410ff61f20015ad"},
		{"abcdbcdecdefdefgefghfghighijhijkijkljklmklmnlmnomnopnopq", "248d6a61d20638b8e5c026930c3e6039a33ce45964ff2167f6ecedd419db06c1"},
		{"abcdefghbcdefghicdefghijdefghijkefghijklfghijklmghijklmnhijklmnoijklmnopjklmnopqklmnopqrlmnopqrsmnopqrstnopqrstu", "cf5b16a778af8380036ce59e7b0492370b249b11e8f07a51afac45037afee9d1"},
		{strings.Repeat("a", 1000000), "cdc76e5c9914fb9281a1c7e284d73e67f1809a48a497200e046d39ccc7112cd0"},
		{"\xbd", "68325720aabd7c82f30f554b313d0570c95accbb7dc4b5aae11204c08ffe732b"},
		{strings.Repeat("\x00", 16), "374708fff7719dd5979ec875d56cd2286f6d3cf7ec317a3b25632aab28ec37bb"},
	} {
		got := sha.Sum([]byte(c.text))
		if !bytes.Equal(got[:], fromHex(t, c.want)) {
			t.Errorf("Sum of %d bytes = %x, not %s", len(c.text), got, c.want)
		}
	}
	if sha.Sum(nil) != sha.Sum([]byte{}) {
		t.Error("a list that is nil has another sum than one without bytes")
	}
}

// plainSum goes from the first words on through all blocks of the padded text.
func plainSum(b []byte) api.Key {
	s := plainFirstWords()
	for block := range slices.Chunk(plainPad(b), 64) {
		s = plainCompress(s, [64]byte(block))
	}
	var out api.Key
	for i, x := range s {
		binary.BigEndian.PutUint32(out[4*i:], x)
	}
	return out
}

func TestSumGoesThroughAllBlocks(t *testing.T) {
	whole := text(300)
	for n := range whole {
		if got, want := sha.Sum(whole[:n]), plainSum(whole[:n]); got != want {
			t.Errorf("Sum of %d bytes = %x, not %x", n, got, want)
		}
	}
}

func TestSumOfManyTexts(t *testing.T) {
	r := rand.New(rand.NewSource(33))
	for range 300 {
		b := make([]byte, r.Intn(5000))
		r.Read(b)
		given := slices.Clone(b)
		got, want := sha.Sum(b), api.Key(sha256.Sum256(b))
		if got != want || !bytes.Equal(b, given) {
			t.Fatalf("Sum(%x) = %x, not %x", given, got, want)
		}
		if again := sha.Sum(b); again != got {
			t.Fatalf("asked again: %x, not %x", again, got)
		}
	}
	long := text(1 << 20)
	if got, want := sha.Sum(long), api.Key(sha256.Sum256(long)); got != want {
		t.Errorf("of %d bytes: %x, not %x", len(long), got, want)
	}
}

func TestSumReadsNothingBehindTheLengthAndWritesNothing(t *testing.T) {
	for _, n := range []int{0, 1, 55, 56, 64, 100} {
		all := text(n + 200)
		if got := sha.Sum(all[:n]); got != sha256.Sum256(text(n)) || !bytes.Equal(all, text(n+200)) {
			t.Errorf("Sum of %d bytes = %x", n, got)
		}
	}
}

// P3.4

// hashes are one of New and a zero one, to which nothing was written.
func hashes() []*sha.Hash {
	return []*sha.Hash{sha.New(), {}, new(sha.Hash)}
}

func TestHashToWhichNothingWasWritten(t *testing.T) {
	for i, h := range hashes() {
		if h == nil {
			t.Fatal("New tells nil")
		}
		for range 3 {
			if got := h.Sum(); got != sha.Sum(nil) {
				t.Errorf("%d: %x", i, got)
			}
			h.Write(nil)
			h.Write([]byte{})
		}
		h.Write([]byte("abc"))
		if got := h.Sum(); got != sha.Sum([]byte("abc")) {
			t.Errorf("%d, behind writes of nothing and abc: %x", i, got)
		}
	}
}

func TestWriteInTwoPieces(t *testing.T) {
	for _, size := range []int{1, 2, 55, 56, 63, 64, 65, 127, 128, 129, 200} {
		b := text(size)
		want := sha.Sum(b)
		for cut := 0; cut <= size; cut++ {
			for i, h := range hashes() {
				h.Write(b[:cut])
				if got := h.Sum(); got != sha.Sum(b[:cut]) {
					t.Fatalf("%d: %d of %d bytes: %x", i, cut, size, got)
				}
				h.Write(b[cut:])
				if got := h.Sum(); got != want {
					t.Fatalf("%d: %d bytes behind %d: %x", i, size-cut, cut, got)
				}
			}
		}
	}
}

func TestWriteInPiecesOfOneSize(t *testing.T) {
	b := text(1000)
	for _, size := range []int{1, 3, 32, 63, 64, 65, 128, 192, 999, 1000} {
		h, at := sha.New(), 0
		for piece := range slices.Chunk(b, size) {
			h.Write(piece)
			at += len(piece)
			if got := h.Sum(); got != sha256.Sum256(b[:at]) {
				t.Fatalf("%d bytes in pieces of %d: %x", at, size, got)
			}
		}
	}
}

func TestWriteInManyPieces(t *testing.T) {
	r := rand.New(rand.NewSource(34))
	for range 200 {
		h, plain := sha.New(), sha256.New()
		for range r.Intn(20) {
			b := make([]byte, r.Intn(300))
			r.Read(b)
			h.Write(b)
			plain.Write(b)
			if r.Intn(2) == 0 {
				h.Sum() // more may be written behind that
			}
		}
		want := api.Key(plain.Sum(nil))
		if got := h.Sum(); got != want {
			t.Fatalf("%x, not %x", got, want)
		}
		if again := h.Sum(); again != want {
			t.Fatalf("asked again: %x, not %x", again, want)
		}
	}
}

func TestWriteOfAMillionBytes(t *testing.T) {
	h := sha.New()
	for range 1000 {
		h.Write(bytes.Repeat([]byte("a"), 1000))
	}
	if got := h.Sum(); !bytes.Equal(got[:], fromHex(t, "cdc76e5c9914fb9281a1c7e284d73e67f1809a48a497200e046d39ccc7112cd0")) {
		t.Errorf("%x", got)
	}
}

func TestWriteNeitherKeepsNorChangesWhatIsHandedIn(t *testing.T) {
	for _, n := range []int{1, 63, 64, 65, 130} {
		all := text(n + 70)
		h := sha.New()
		h.Write(all[:n])
		if !bytes.Equal(all, text(n+70)) {
			t.Errorf("Write of %d bytes changed them, or what lies behind them", n)
		}
		clear(all)
		if got := h.Sum(); got != sha256.Sum256(text(n)) {
			t.Errorf("behind a write over the %d bytes: %x", n, got)
		}
	}
}

func TestHashesHangOnNoOtherOne(t *testing.T) {
	first, second := sha.New(), sha.New()
	first.Write([]byte("one"))
	second.Write([]byte("two"))
	first.Write([]byte("more"))
	if got := first.Sum(); got != sha.Sum([]byte("onemore")) {
		t.Errorf("the first: %x", got)
	}
	if got := second.Sum(); got != sha.Sum([]byte("two")) {
		t.Errorf("the second: %x", got)
	}
	if got := sha.New().Sum(); got != sha.Sum(nil) {
		t.Errorf("a third: %x", got)
	}
}

func TestNilHashTellsTheSumOfNothing(t *testing.T) {
	var none *sha.Hash
	for _, b := range [][]byte{nil, []byte("abc"), text(64), text(200)} {
		none.Write(b)
		if got := none.Sum(); got != sha.Sum(nil) {
			t.Errorf("behind a write of %d bytes: %x", len(b), got)
		}
	}
	if got := sha.New().Sum(); got != sha.Sum(nil) {
		t.Errorf("another one, behind these: %x", got)
	}
}
