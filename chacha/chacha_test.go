package chacha_test

import (
	"bytes"
	"crypto/sha256"
	"encoding/binary"
	"encoding/hex"
	"math"
	"math/rand"
	"slices"
	"testing"

	"erewhile/api"
	"erewhile/chacha"
)

// plainQuarter goes through the document's steps on a state's numbers at four places.
func plainQuarter(s *[16]uint32, a, b, c, d int) {
	mix := func(to, from, other, turn int) {
		s[to] += s[from]
		x := s[other] ^ s[to]
		s[other] = x<<turn | x>>(32-turn)
	}
	mix(a, b, d, 16)
	mix(c, d, b, 12)
	mix(a, b, d, 8)
	mix(c, d, b, 7)
}

func plainRounds(s [16]uint32) [16]uint32 {
	places := [][4]int{
		{0, 4, 8, 12}, {1, 5, 9, 13}, {2, 6, 10, 14}, {3, 7, 11, 15},
		{0, 5, 10, 15}, {1, 6, 11, 12}, {2, 7, 8, 13}, {3, 4, 9, 14},
	}
	for range 10 {
		for _, p := range places {
			plainQuarter(&s, p[0], p[1], p[2], p[3])
		}
	}
	return s
}

func plainBlock(k api.Key, counter uint32, nonce uint64) [64]byte {
	row := slices.Concat([]byte("expand 32-byte k"), k[:])
	row = binary.LittleEndian.AppendUint32(row, counter)
	row = append(row, 0, 0, 0, 0)
	row = binary.LittleEndian.AppendUint64(row, nonce)
	var s [16]uint32
	for i := range s {
		s[i] = binary.LittleEndian.Uint32(row[4*i:])
	}
	var out [64]byte
	for i, n := range plainRounds(s) {
		binary.LittleEndian.PutUint32(out[4*i:], s[i]+n)
	}
	return out
}

// counted is the key 0, 1, 2 and so on.
func counted() api.Key {
	var k api.Key
	for i := range k {
		k[i] = byte(i)
	}
	return k
}

func randomKey(r *rand.Rand) api.Key {
	var k api.Key
	r.Read(k[:])
	return k
}

func fromHex(t *testing.T, text string) []byte {
	t.Helper()
	b, err := hex.DecodeString(text)
	if err != nil {
		t.Fatal(err)
	}
	return b
}

// P2.1

func TestQuarterTellsThemBehindAQuarterRound(t *testing.T) {
	for _, c := range []struct{ in, want [4]uint32 }{
		{[4]uint32{0x11111111, 0x01020304, 0x9b8d6f43, 0x01234567}, [4]uint32{0xea2a92f4, 0xcb1cf8ce, 0x4581472e, 0x5881c4bb}},
		{[4]uint32{0x516461b1, 0x2a5f714c, 0x53372767, 0x3d631689}, [4]uint32{0xbdb886dc, 0xcfacafd2, 0xe46bea80, 0xccc07c79}},
		{[4]uint32{}, [4]uint32{}},
		// One bit of a alone, worked out by hand: d is 1<<16, c is 1<<16, b is 1<<28; a is 1<<28 + 1; d is (1<<16 ^ a) turned by 8.
		{[4]uint32{1, 0, 0, 0}, [4]uint32{0x10000001, 0x80808808, 0x01010110, 0x01000110}},
	} {
		x := c.in
		if a, b, c1, d := chacha.Quarter(x[0], x[1], x[2], x[3]); [4]uint32{a, b, c1, d} != c.want {
			t.Errorf("Quarter(%x) = %x %x %x %x, not %x", c.in, a, b, c1, d, c.want)
		}
	}
}

func TestQuarterDropsWhatGoesBeyond32Bits(t *testing.T) {
	edges := []uint32{0, 1, 1<<16 - 1, 1 << 16, 1<<31 - 1, 1 << 31, math.MaxUint32 - 1, math.MaxUint32}
	for i := range len(edges) * len(edges) * len(edges) * len(edges) {
		var s [16]uint32
		for j := range 4 {
			s[j] = edges[i>>(3*j)&7]
		}
		a, b, c, d := chacha.Quarter(s[0], s[1], s[2], s[3])
		in := s
		plainQuarter(&s, 0, 1, 2, 3)
		if got := [4]uint32{a, b, c, d}; got != [4]uint32(s[:4]) {
			t.Fatalf("Quarter(%x) = %x, not %x", in[:4], got, s[:4])
		}
	}
}

func TestRoundsTellsTheStateBehindTenDoubleRounds(t *testing.T) {
	// The state of RFC 8439, 2.3.2, whose nonce has another start than a key's state here.
	in := [16]uint32{
		0x61707865, 0x3320646e, 0x79622d32, 0x6b206574,
		0x03020100, 0x07060504, 0x0b0a0908, 0x0f0e0d0c,
		0x13121110, 0x17161514, 0x1b1a1918, 0x1f1e1d1c,
		0x00000001, 0x09000000, 0x4a000000, 0x00000000,
	}
	want := [16]uint32{
		0x837778ab, 0xe238d763, 0xa67ae21e, 0x5950bb2f,
		0xc4f2d0c7, 0xfc62bb2f, 0x8fa018fc, 0x3f5ec7b7,
		0x335271c2, 0xf29489f3, 0xeabda8fc, 0x82e46ebd,
		0xd19c12b4, 0xb04e16de, 0x9e83d0cb, 0x4e3c50a2,
	}
	if got := chacha.Rounds(in); got != want {
		t.Errorf("%08x, not %08x", got, want)
	}
	if got := chacha.Rounds([16]uint32{}); got != [16]uint32{} {
		t.Errorf("noughts become %08x", got)
	}
}

func TestRoundsOfStatesThatDifferInOneBit(t *testing.T) {
	for bit := range 512 {
		var s [16]uint32
		s[bit/32] = 1 << (bit % 32)
		if got, want := chacha.Rounds(s), plainRounds(s); got != want {
			t.Errorf("bit %d: %08x, not %08x", bit, got, want)
		}
	}
}

func TestRoundsOfManyStates(t *testing.T) {
	r := rand.New(rand.NewSource(2))
	var full [16]uint32
	for i := range full {
		full[i] = math.MaxUint32
	}
	states := [][16]uint32{full}
	for range 500 {
		var s [16]uint32
		for i := range s {
			s[i] = r.Uint32()
		}
		states = append(states, s)
	}
	for _, s := range states {
		given := s
		got, want := chacha.Rounds(s), plainRounds(s)
		if got != want || s != given {
			t.Fatalf("Rounds(%08x) = %08x, not %08x", given, got, want)
		}
		if again := chacha.Rounds(s); again != got {
			t.Fatalf("asked again: %08x, not %08x", again, got)
		}
	}
}

// P2.2, and P2.3: what it tells is what RFC 8439 tells, in 2.4.2 and A.1

func TestBlockTellsWhatTheRFCTells(t *testing.T) {
	last, second := api.Key{31: 1}, api.Key{1: 0xff}
	for _, c := range []struct {
		k       api.Key
		counter uint32
		nonce   uint64
		want    string
	}{
		{api.Key{}, 0, 0, "76b8e0ada0f13d90405d6ae55386bd28bdd219b8a08ded1aa836efcc8b770dc7da41597c5157488d7724e03fb8d84a376a43b8f41518a11cc387b669b2ee6586"},
		{api.Key{}, 1, 0, "9f07e7be5551387a98ba977c732d080dcb0f29a048e3656912c6533e32ee7aed29b721769ce64e43d57133b074d839d531ed1f28510afb45ace10a1f4b794d6f"},
		{last, 1, 0, "3aeb5224ecf849929b9d828db1ced4dd832025e8018b8160b82284f3c949aa5a8eca00bbb4a73bdad192b5c42f73f2fd4e273644c8b36125a64addeb006c13a0"},
		{second, 2, 0, "72d54dfbf12ec44b362692df94137f328fea8da73990265ec1bbbea1ae9af0ca13b25aa26cb4a648cb9b9d1be65b2c0924a66c54d545ec1b7374f4872e99f096"},
		{api.Key{}, 0, 2 << 56, "c2c64d378cd536374ae204b9ef933fcd1a8b2288b3dfa49672ab765b54ee27c78a970e0e955c14f3a88e741b97c286f75f8fc299e8148362fa198a39531bed6d"},
		{counted(), 1, 0x4a000000, "224f51f3401bd9e12fde276fb8631ded8c131f823d2c06e27e4fcaec9ef3cf788a3b0aa372600a92b57974cded2b9334794cba40c63e34cdea212c4cf07d41b7"},
		{counted(), 2, 0x4a000000, "69a6749f3f630f4122cafe28ec4dc47e26d4346d70b98c73f3e9c53ac40c5945398b6eda1a832c89c167eacd901d7e2bf363740373201aa188fbbce83991c4ed"},
		{counted(), math.MaxUint32, 0x0102030405060708, "09184548d141475167c70d0d5b4b998797f6d871c790596fe05f0ab4e9bfca7f11e76b5d823b38f206931566b322bf58a6f280ee21698e8f26e0ca1ede273fb4"},
	} {
		got := chacha.Block(c.k, c.counter, c.nonce)
		if !bytes.Equal(got[:], fromHex(t, c.want)) {
			t.Errorf("Block(%x, %d, %x) = %x, not %s", c.k, c.counter, c.nonce, got, c.want)
		}
	}
}

func TestBlockHangsOnEachBitOfItsKeyCounterAndNonce(t *testing.T) {
	seen := map[[64]byte]bool{}
	look := func(k api.Key, counter uint32, nonce uint64) {
		got := chacha.Block(k, counter, nonce)
		if want := plainBlock(k, counter, nonce); got != want {
			t.Errorf("Block(%x, %x, %x) = %x, not %x", k, counter, nonce, got, want)
		}
		if seen[got] {
			t.Errorf("Block(%x, %x, %x) was seen already", k, counter, nonce)
		}
		seen[got] = true
	}
	for bit := range 256 {
		k := counted()
		k[bit/8] ^= 1 << (bit % 8)
		look(k, 5, 7)
	}
	for bit := range 32 {
		look(counted(), 1<<bit, 7)
	}
	for bit := range 64 {
		look(counted(), 5, 1<<bit)
	}
}

func TestBlockOfManyKeys(t *testing.T) {
	r := rand.New(rand.NewSource(22))
	for range 500 {
		k, counter, nonce := randomKey(r), r.Uint32(), r.Uint64()
		given := k
		got, want := chacha.Block(k, counter, nonce), plainBlock(k, counter, nonce)
		if got != want || k != given {
			t.Fatalf("Block(%x, %x, %x) = %x, not %x", given, counter, nonce, got, want)
		}
		if again := chacha.Block(k, counter, nonce); again != got {
			t.Fatalf("asked again: %x, not %x", again, got)
		}
	}
}

// plainStream is a stream of whole blocks, at least size bytes of it.
func plainStream(k api.Key, nonce uint64, size int) []byte {
	var out []byte
	for counter := uint32(0); len(out) < size; counter++ {
		block := plainBlock(k, counter, nonce)
		out = append(out, block[:]...)
	}
	return out
}

func TestStreamTellsTheFirstBytesOfTheBlocks(t *testing.T) {
	r := rand.New(rand.NewSource(222))
	for range 3 {
		k, nonce := randomKey(r), r.Uint64()
		whole := plainStream(k, nonce, 400)
		for size := 1; size <= 400; size++ {
			if got := chacha.Stream(k, nonce, size); !bytes.Equal(got, whole[:size]) {
				t.Fatalf("Stream(%x, %x, %d) = %x, not %x", k, nonce, size, got, whole[:size])
			}
		}
	}
	if got := chacha.Stream(api.Key{}, 0, 4); !bytes.Equal(got, []byte{0x76, 0xb8, 0xe0, 0xad}) {
		t.Errorf("of a key of noughts: %x", got)
	}
}

func TestStreamTellsUpTo65536Bytes(t *testing.T) {
	whole := plainStream(counted(), 0x0102030405060708, 65536)
	for _, size := range []int{16384, 16385, 32768, 65471, 65472, 65473, 65535, 65536} {
		if got := chacha.Stream(counted(), 0x0102030405060708, size); !bytes.Equal(got, whole[:size]) {
			t.Errorf("of %d bytes: %d, or others", size, len(got))
		}
	}
	// The sum of all that another program of the same cipher tells.
	sum := sha256.Sum256(chacha.Stream(counted(), 0x0102030405060708, 65536))
	if got := hex.EncodeToString(sum[:]); got != "117c90a71ab02f0bbee17926d1cde798cf602471be0f5562ffccf83138e43f91" {
		t.Error(got)
	}
}

func TestStreamTellsNoneOfOtherSizes(t *testing.T) {
	for _, size := range []int{0, -1, -64, math.MinInt, math.MinInt + 1, 65537, 65536 + 64, 1 << 17, 1<<32 + 1, 1<<32 + 64, math.MaxInt - 1, math.MaxInt} {
		if got := chacha.Stream(counted(), 1, size); len(got) != 0 {
			t.Errorf("Stream of size %d has %d bytes, not none", size, len(got))
		}
	}
}

func TestStreamHangsOnAllOfItsNonce(t *testing.T) {
	seen := map[string]bool{}
	for bit := range 64 {
		nonce := uint64(1) << bit
		got := chacha.Stream(api.Key{9}, nonce, 100)
		if !bytes.Equal(got, plainStream(api.Key{9}, nonce, 100)[:100]) || seen[string(got)] {
			t.Errorf("nonce %x: %x", nonce, got)
		}
		seen[string(got)] = true
	}
}

func TestStreamTellsNewMemory(t *testing.T) {
	want := plainStream(counted(), 3, 130)[:130]
	first, second := chacha.Stream(counted(), 3, 130), chacha.Stream(counted(), 3, 130)
	clear(first[:cap(first)])
	if !bytes.Equal(second, want) {
		t.Errorf("one answer changed with another one: %x", second)
	}
	if third := chacha.Stream(counted(), 3, 130); !bytes.Equal(third, want) {
		t.Errorf("behind a write over the first answer: %x", third)
	}
}
