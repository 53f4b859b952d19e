package sector_test

import (
	"bytes"
	"crypto/sha256"
	"encoding/hex"
	"math"
	"math/rand"
	"slices"
	"testing"

	"erewhile/api"
	"erewhile/cipher"
	"erewhile/device"
	"erewhile/mirror"
	"erewhile/sector"
)

var ours = cipher.Real{}

// text is a row of bytes of which hardly two pieces are alike.
func text(size int) []byte {
	b := make([]byte, size)
	for i := range b {
		b[i] = byte(i*i>>3 + 5*i + i>>8 + 1)
	}
	return b
}

// places are those around the ends, and those of which one byte or two count.
func places() []int {
	return []int{0, 1, 2, 127, 128, 255, 256, 257, 258, 511, 512, 2048, 4094, 4095}
}

// nowhere are numbers that are no places, some of which are like one in their last bytes.
func nowhere() []int {
	return []int{
		-1, -2, -4095, -4096, -1 << 32, -1<<32 + 5, math.MinInt32, math.MinInt, math.MinInt + 1,
		4096, 4097, 8191, 8192, 65535, 65536, math.MaxInt32, 1 << 32, 1<<32 + 1, 1<<32 + 258, 1 << 40, math.MaxInt - 1, math.MaxInt,
	}
}

func gens() []uint64 {
	return []uint64{
		0, 1, 2, 255, 256, 65535, 65536, math.MaxUint32, 1 << 32, 0x0102030405060708,
		math.MaxInt64, 1 << 63, math.MaxUint64 - 1, math.MaxUint64,
	}
}

// plainSum is the real cipher's, of a key of noughts.
func plainSum(b []byte) []byte {
	var k [32]byte
	inner := sha256.Sum256(slices.Concat(k[:], b))
	outer := sha256.Sum256(slices.Concat(k[:], inner[:]))
	return outer[:16]
}

// sealed lays the parts behind one another, whatever they are, and the right sum of them ahead; at counts by its last 4 bytes.
func sealed(at int, gen uint64, size byte, rest []byte) api.Sector {
	var b []byte
	for shift := 56; shift >= 0; shift -= 8 {
		b = append(b, byte(gen>>shift))
	}
	b = append(b, size)
	b = append(b, rest...)
	b = append(b, make([]byte, 112-len(b))...)
	place := []byte{byte(at >> 24), byte(at >> 16), byte(at >> 8), byte(at)}
	return api.Sector(slices.Concat(plainSum(slices.Concat(place, b)), b))
}

func pack(t *testing.T, c api.Cipher, at int, gen uint64, body []byte) api.Sector {
	t.Helper()
	s, ok := sector.Pack(c, at, gen, body)
	if !ok {
		t.Fatalf("Pack at %d of generation %d and %d bytes: false", at, gen, len(body))
	}
	return s
}

func noPack(t *testing.T, c api.Cipher, at int, gen uint64, body []byte) {
	t.Helper()
	if s, ok := sector.Pack(c, at, gen, body); ok || s != (api.Sector{}) {
		t.Errorf("Pack at %d of generation %d and %d bytes = %x, %v", at, gen, len(body), s, ok)
	}
}

// unpacks looks that s is told as the sealed sector of just these, by Good too.
func unpacks(t *testing.T, c api.Cipher, at int, s api.Sector, gen uint64, body []byte) {
	t.Helper()
	if g, b, ok := sector.Unpack(c, at, s); g != gen || !bytes.Equal(b, body) || !ok {
		t.Errorf("Unpack at %d = %d, %x, %v, not %d, %x", at, g, b, ok, gen, body)
	}
	if !sector.Good(c)(at, s) {
		t.Errorf("at %d: not good", at)
	}
}

// noUnpack looks that s is told as none's, by Good too.
func noUnpack(t *testing.T, c api.Cipher, at int, s api.Sector) {
	t.Helper()
	if g, b, ok := sector.Unpack(c, at, s); ok || g != 0 || len(b) != 0 {
		t.Errorf("Unpack at %d of %x = %d, %x, %v", at, s, g, b, ok)
	}
	if sector.Good(c)(at, s) {
		t.Errorf("at %d: %x is good", at, s)
	}
}

// asked is a cipher that remembers what it was asked for; all its sums are the same one.
type asked struct {
	sum    api.Sum
	keys   []api.Key
	rows   [][]byte
	others int
}

func (a *asked) Pad(api.Key, uint64) api.Block {
	a.others++
	return api.Block{}
}

func (a *asked) Split(k api.Key) (left, right api.Key) {
	a.others++
	return k, k
}

func (a *asked) Sum(k api.Key, b []byte) api.Sum {
	a.keys, a.rows = append(a.keys, k), append(a.rows, bytes.Clone(b))
	return a.sum
}

// rude is a cipher with the real one's sums that writes over what it was handed, as far as the memory reaches.
type rude struct{ cipher.Real }

func (r rude) Sum(k api.Key, b []byte) api.Sum {
	sum := r.Real.Sum(k, b)
	for i := range b[:cap(b)] {
		b[:cap(b)][i] = 0xee
	}
	return sum
}

// P11.1

// The sums are those of sha256 as other programs tell it.
func TestPackByHand(t *testing.T) {
	for _, c := range []struct {
		at   int
		gen  uint64
		body []byte
		want string
	}{
		{0, 0, nil, "14865a78cb29c951420d38f9cd7aec3e"},
		{258, 0x0102030405060708, []byte("ab"), "f9a1754898abec00b06a0acee4978218"},
		{4095, math.MaxUint64, upTo(103), "12f648a306add6473af3ce850ed5dfd6"},
	} {
		s := pack(t, ours, c.at, c.gen, c.body)
		if got := hex.EncodeToString(s[:16]); got != c.want {
			t.Errorf("at %d the sum is %s, not %s", c.at, got, c.want)
		}
	}
	s := pack(t, ours, 258, 0x0102030405060708, []byte("ab"))
	want := append([]byte{1, 2, 3, 4, 5, 6, 7, 8, 2, 'a', 'b'}, make([]byte, 101)...)
	if !bytes.Equal(s[16:], want) {
		t.Errorf("behind the sum: %x, not %x", s[16:], want)
	}
}

// upTo are the bytes 1, 2 and so on.
func upTo(n int) []byte {
	b := make([]byte, n)
	for i := range b {
		b[i] = byte(i + 1)
	}
	return b
}

func TestPackLaysThePartsBehindOneAnother(t *testing.T) {
	for _, at := range places() {
		for _, gen := range gens() {
			for _, size := range []int{0, 1, 2, 50, 102, 103} {
				if s := pack(t, ours, at, gen, text(size)); s != sealed(at, gen, byte(size), text(size)) {
					t.Errorf("at %d of generation %d and %d bytes: %x", at, gen, size, s)
				}
			}
		}
	}
}

func TestPackOfEachSize(t *testing.T) {
	for size := 0; size <= 103; size++ {
		for _, body := range [][]byte{text(size), make([]byte, size), bytes.Repeat([]byte{255}, size)} {
			if s := pack(t, ours, 7, 9, body); s != sealed(7, 9, byte(size), body) {
				t.Errorf("%d bytes: %x", size, s)
			}
		}
	}
}

func TestPackTellsNoneOfLongerBodies(t *testing.T) {
	for _, size := range []int{104, 105, 111, 112, 127, 128, 129, 255, 256, 257, 256 + 103, 512, 65536, 65536 + 1, 1 << 20} {
		noPack(t, ours, 0, 0, make([]byte, size))
		noPack(t, ours, 4095, 5, text(size))
		noPack(t, &asked{}, 0, 0, make([]byte, size))
	}
}

func TestPackTellsNoneAtNoPlace(t *testing.T) {
	for _, at := range nowhere() {
		noPack(t, ours, at, 0, nil)
		noPack(t, ours, at, 3, text(103))
		noPack(t, ours, at, 3, text(104))
		noPack(t, &asked{sum: api.Sum{1}}, at, 0, nil)
	}
}

func TestPackTellsNoneByNoCipher(t *testing.T) {
	var none api.Cipher
	for _, at := range append(places(), nowhere()...) {
		for _, size := range []int{0, 1, 103, 104} {
			noPack(t, none, at, 1, text(size))
		}
	}
}

func TestSectorsAreAlikeOnlyIfAllIs(t *testing.T) {
	seen := map[api.Sector]bool{}
	look := func(at int, gen uint64, body []byte) {
		t.Helper()
		s := pack(t, ours, at, gen, body)
		if seen[s] {
			t.Errorf("the sector at %d of generation %d and %x was seen already", at, gen, body)
		}
		seen[s] = true
	}
	for _, at := range places() {
		for _, gen := range gens() {
			for _, body := range [][]byte{nil, {0}, {0, 0}, {1}, {1, 0}, text(103), make([]byte, 103)} {
				look(at, gen, body)
			}
		}
	}
}

func TestTheSumIsThatOfAKeyOfNoughtsAndOfAllThatStandsBehindIt(t *testing.T) {
	for _, at := range places() {
		for _, size := range []int{0, 1, 50, 103} {
			a := asked{sum: api.Sum(text(16))}
			s := pack(t, &a, at, 77, text(size))
			row := slices.Concat([]byte{0, 0, byte(at >> 8), byte(at)}, s[16:])
			if len(a.keys) == 0 || a.others != 0 || api.Sum(s[:16]) != a.sum {
				t.Fatalf("at %d, %d bytes: %+v", at, size, a)
			}
			for i := range a.keys {
				if a.keys[i] != (api.Key{}) || !bytes.Equal(a.rows[i], row) {
					t.Errorf("at %d, %d bytes: the sum of %x, not %x", at, size, a.rows[i], row)
				}
			}
		}
	}
}

func TestPackReadsAndWritesNothingBehindTheLength(t *testing.T) {
	for size := 0; size <= 103; size++ {
		room := text(200)
		for range 2 {
			before := slices.Clone(room)
			if s := pack(t, ours, 1, 2, room[:size]); s != sealed(1, 2, byte(size), text(size)) || !bytes.Equal(room, before) {
				t.Fatalf("%d bytes: %x", size, s)
			}
			clear(room[size:])
		}
	}
}

// A cipher is handed memory of its own: what it does there changes neither the body nor the sector.
func TestWhatACipherIsHandedIsItsOwn(t *testing.T) {
	for size := 0; size <= 103; size++ {
		room := text(150)
		s := pack(t, rude{}, 5, 6, room[:size])
		if s != sealed(5, 6, byte(size), text(size)) || !bytes.Equal(room, text(150)) {
			t.Fatalf("%d bytes: %x", size, s)
		}
		unpacks(t, rude{}, 5, s, 6, text(size))
	}
}

// P11.2

func TestUnpackTellsWhatWasPacked(t *testing.T) {
	for _, at := range places() {
		for _, gen := range gens() {
			for _, size := range []int{0, 1, 2, 50, 102, 103} {
				unpacks(t, ours, at, pack(t, ours, at, gen, text(size)), gen, text(size))
			}
		}
	}
	for size := 0; size <= 103; size++ {
		for _, body := range [][]byte{text(size), make([]byte, size), bytes.Repeat([]byte{255}, size)} {
			unpacks(t, ours, 7, sealed(7, 9, byte(size), body), 9, body)
		}
	}
}

func TestUnpackAtEachPlace(t *testing.T) {
	s := sealed(258, 3, 2, []byte("ab"))
	for at := range api.MaxSectors {
		if at != 258 {
			noUnpack(t, ours, at, s)
		}
		unpacks(t, ours, at, sealed(at, 3, 2, []byte("ab")), 3, []byte("ab"))
	}
}

func TestUnpackTellsNoneWhereABitIsWrong(t *testing.T) {
	for _, size := range []int{0, 2, 103} {
		s := sealed(258, 0x0102030405060708, byte(size), text(size))
		for bit := range 8 * len(s) {
			x := s
			x[bit/8] ^= 1 << (bit % 8)
			noUnpack(t, ours, 258, x)
		}
	}
}

// All sums that count only a part of what stands there would let one of these through.
func TestUnpackTellsNoneWhereBytesAreExchanged(t *testing.T) {
	s := sealed(4095, 0x0102030405060708, 103, upTo(103))
	for i := 1; i < len(s); i++ {
		x := s
		x[i-1], x[i] = x[i], x[i-1]
		if x != s {
			noUnpack(t, ours, 4095, x)
		}
	}
}

func TestUnpackTellsNoneOfAnyOtherLength(t *testing.T) {
	for size := 104; size <= 255; size++ {
		noUnpack(t, ours, 9, sealed(9, 1, byte(size), nil))
		noUnpack(t, ours, 9, sealed(9, 1, byte(size), text(103)))
		noUnpack(t, &asked{}, 9, api.Sector{24: byte(size)})
	}
	for size := range 103 {
		noUnpack(t, ours, 9, sealed(9, 1, byte(size), bytes.Repeat([]byte{1}, size+1)))
	}
}

// The sum is right, but behind the body stands a byte that isn't 0.
func TestUnpackTellsNoneWhereMoreStandsBehindTheBody(t *testing.T) {
	for _, size := range []int{0, 1, 50, 101, 102} {
		for i := size; i < 103; i++ {
			for _, x := range []byte{1, 128, 255} {
				rest := append(text(size), make([]byte, 103-size)...)
				rest[i] = x
				noUnpack(t, ours, 9, sealed(9, 1, byte(size), rest))
			}
		}
	}
}

// The sums are right, as far as the number goes into 4 bytes.
func TestUnpackTellsNoneAtNoPlace(t *testing.T) {
	for _, at := range nowhere() {
		for _, size := range []int{0, 2, 103} {
			noUnpack(t, ours, at, sealed(at, 3, byte(size), text(size)))
			noUnpack(t, ours, at, sealed(0, 3, byte(size), text(size)))
			noUnpack(t, ours, at, sealed(4095, 3, byte(size), text(size)))
		}
		noUnpack(t, ours, at, api.Sector{})
		noUnpack(t, &asked{}, at, api.Sector{})
	}
}

func TestUnpackTellsNoneByNoCipher(t *testing.T) {
	var none api.Cipher
	for _, at := range append(places(), nowhere()...) {
		noUnpack(t, none, at, sealed(at, 1, 2, []byte("ab")))
		noUnpack(t, none, at, api.Sector{})
	}
}

func TestUnpackTellsNoneByAnotherCipher(t *testing.T) {
	s := pack(t, ours, 3, 4, []byte("ab"))
	noUnpack(t, &asked{}, 3, s)
	noUnpack(t, ours, 3, pack(t, &asked{sum: api.Sum{15: 1}}, 3, 4, []byte("ab")))
	for i := range 16 {
		sum := api.Sum(s[:16])
		unpacks(t, &asked{sum: sum}, 3, s, 4, []byte("ab"))
		sum[i]++
		noUnpack(t, &asked{sum: sum}, 3, s)
	}
}

// By a cipher whose sums are noughts the sector of noughts is a sealed one; by the real one it is none's.
func TestTheSectorOfNoughts(t *testing.T) {
	for _, at := range places() {
		noUnpack(t, ours, at, api.Sector{})
		noUnpack(t, ours, at, api.Sector(bytes.Repeat([]byte{255}, 128)))
		if s := pack(t, &asked{}, at, 0, nil); s != (api.Sector{}) {
			t.Errorf("at %d: %x", at, s)
		}
		unpacks(t, &asked{}, at, api.Sector{}, 0, nil)
		unpacks(t, &asked{}, at, api.Sector{24: 103}, 0, make([]byte, 103))
	}
}

func TestUnpackAsksForSumsOfNoughtsAndForNothingElse(t *testing.T) {
	a := asked{sum: api.Sum(text(16))}
	s := pack(t, &a, 258, 5, text(70))
	a.keys, a.rows = nil, nil
	unpacks(t, &a, 258, s, 5, text(70))
	if a.others != 0 || len(a.keys) == 0 {
		t.Fatalf("%+v", a)
	}
	for i := range a.keys {
		if a.keys[i] != (api.Key{}) || !bytes.Equal(a.rows[i], slices.Concat([]byte{0, 0, 1, 2}, s[16:])) {
			t.Errorf("the sum of %x", a.rows[i])
		}
	}
}

func TestUnpackTellsNewMemory(t *testing.T) {
	for size := 1; size <= 103; size++ {
		s := sealed(1, 2, byte(size), text(size))
		_, first, _ := sector.Unpack(ours, 1, s)
		_, second, _ := sector.Unpack(ours, 1, s)
		clear(first[:cap(first)])
		if !bytes.Equal(second, text(size)) || s != sealed(1, 2, byte(size), text(size)) {
			t.Fatalf("%d bytes: a write over an answer changed something else", size)
		}
		unpacks(t, ours, 1, s, 2, text(size))
	}
}

// P11.3

func TestGoodIsNeverNil(t *testing.T) {
	for _, c := range []api.Cipher{nil, ours, &asked{}} {
		if sector.Good(c) == nil {
			t.Errorf("Good(%v) is nil", c)
		}
	}
	none := sector.Good(nil)
	for _, at := range append(places(), nowhere()...) {
		if none(at, api.Sector{}) || none(at, sealed(at, 1, 1, []byte{7})) {
			t.Errorf("good at %d by no cipher", at)
		}
	}
}

func TestGoodKeepsTheCipherThatItWasHanded(t *testing.T) {
	a, b := &asked{sum: api.Sum{1}}, &asked{sum: api.Sum{2}}
	goods := []func(int, api.Sector) bool{sector.Good(ours), sector.Good(a), sector.Good(b), sector.Good(nil)}
	for i, c := range []api.Cipher{ours, a, b} {
		s := pack(t, c, 258, 1, []byte("ab"))
		for range 2 { // asked again, it tells the same
			for j, good := range goods {
				if good(258, s) != (i == j) {
					t.Errorf("the sector of cipher %d is good by cipher %d: %v", i, j, i != j)
				}
			}
		}
	}
}

// Sectors by chance, some sealed, some spoilt, are held against the plain sum.
func TestGoodAndUnpackByChance(t *testing.T) {
	random := rand.New(rand.NewSource(11))
	good := sector.Good(ours)
	var right, wrong int
	for range 5000 {
		at, gen, size := random.Intn(4100)-2, random.Uint64()>>random.Intn(64), random.Intn(110)
		rest := make([]byte, min(size, 103))
		random.Read(rest)
		want := at >= 0 && at < 4096 && size <= 103
		s := sealed(at, gen, byte(size), rest)
		switch random.Intn(5) {
		case 0:
			i, x := random.Intn(128), byte(1+random.Intn(255))
			s[i] ^= x
			want = false
		case 1:
			random.Read(s[:])
			want = false
		}
		g, b, ok := sector.Unpack(ours, at, s)
		if ok != want || good(at, s) != want || !ok && (g != 0 || len(b) != 0) || ok && (g != gen || !bytes.Equal(b, rest)) {
			t.Fatalf("at %d: %x = %d, %x, %v, not %v", at, s, g, b, ok, want)
		}
		if packed, is := sector.Pack(ours, at, gen, rest); want && (packed != s || !is) {
			t.Fatalf("Pack at %d of %d and %x = %x, %v", at, gen, rest, packed, is)
		}
		if ok {
			right++
		} else {
			wrong++
		}
	}
	if right < 1000 || wrong < 1000 {
		t.Errorf("%d were right and %d wrong", right, wrong)
	}
}

// A mirror that is handed Good reads what is whole, and what is whole elsewhere isn't taken for it.
func TestGoodOfAMirror(t *testing.T) {
	one, two := device.New(4, nil), device.New(4, nil)
	m := mirror.New(one, two, sector.Good(ours))
	s := pack(t, ours, 2, 5, []byte("ab"))
	for _, n := range []int{1, 2} {
		if e := m.Write(n, s); e != api.OK {
			t.Fatal(e)
		}
	}
	if e := m.Flush(); e != api.OK {
		t.Fatal(e)
	}
	one.Rot(2, 100, 1)
	if got, e := one.Read(2); got == s || e != api.OK {
		t.Fatal("the first device's sector isn't spoilt")
	}
	if got, e := m.Read(2); got != s || e != api.OK {
		t.Errorf("Read(2) = %x, %v", got, e)
	}
	if _, e := m.Read(1); e != api.ErrLost {
		t.Errorf("Read(1) tells %v", e)
	}
}
