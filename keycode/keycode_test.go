package keycode_test

import (
	"bytes"
	"math"
	"math/rand"
	"slices"
	"testing"

	"erewhile/api"
	"erewhile/cipher"
	"erewhile/keycode"
	"erewhile/keytree"
)

const all = 1 << api.Depth // leaves of the whole tree

// seed is a key of which hardly two bytes are alike, another one for each x.
func seed(x int) (k api.Key) {
	for i := range k {
		k[i] = byte(x*37 + x>>8*11 + i*7 + 1)
	}
	return k
}

// size is how many leaves a node at a depth has, counted by halving.
func size(depth int) uint64 {
	n := uint64(all)
	for range depth {
		n /= 2
	}
	return n
}

// may tells whether nodes may be held: each one a node of the tree, and each behind the leaves of the one ahead.
func may(held []keytree.Held) bool {
	free := uint64(0)
	for _, h := range held {
		if h.Depth < 0 || h.Depth > 17 || h.At >= all || h.At%size(h.Depth) != 0 || h.At < free {
			return false
		}
		free = h.At + size(h.Depth)
	}
	return true
}

// plain writes the bytes down, one by one.
func plain(held []keytree.Held) []byte {
	b := []byte{byte(len(held) / 256), byte(len(held) % 256)}
	for _, h := range held {
		b = append(b, byte(h.Depth), byte(h.At/65536), byte(h.At/256%256), byte(h.At%256))
		b = append(b, h.Seed[:]...)
	}
	return b
}

// plainNodes reads nodes byte by byte, whether they may be held or not; false where the bytes aren't as many as they say.
func plainNodes(b []byte) ([]keytree.Held, bool) {
	if len(b) < 2 || len(b) != 2+36*(256*int(b[0])+int(b[1])) {
		return nil, false
	}
	var held []keytree.Held
	for i := 2; i < len(b); i += 36 {
		h := keytree.Held{Depth: int(b[i]), At: 65536*uint64(b[i+1]) + 256*uint64(b[i+2]) + uint64(b[i+3])}
		copy(h.Seed[:], b[i+4:i+36])
		held = append(held, h)
	}
	return held, true
}

// some are nodes with gaps between them, two of them halves of one, each with a seed of its own.
func some() []keytree.Held {
	return []keytree.Held{
		{Depth: 17, At: 3, Seed: seed(1)},
		{Depth: 16, At: 4, Seed: seed(2)},
		{Depth: 17, At: 6, Seed: seed(3)},
		{Depth: 17, At: 7, Seed: seed(4)},
		{Depth: 12, At: 64, Seed: seed(5)},
		{Depth: 9, At: 512, Seed: seed(6)},
		{Depth: 2, At: all / 2, Seed: seed(7)},
		{Depth: 3, At: all/2 + all/4, Seed: seed(8)},
		{Depth: 17, At: all - 1, Seed: seed(9)},
	}
}

// leaves are the first n leaves, each one a node.
func leaves(n int) []keytree.Held {
	held := make([]keytree.Held, n)
	for i := range held {
		held[i] = keytree.Held{Depth: 17, At: uint64(i), Seed: seed(i)}
	}
	return held
}

// lists are some that may be held: none, the root, each depth's first and last node, all of a depth, leaves at the ends of bytes.
func lists() [][]keytree.Held {
	l := [][]keytree.Held{nil, {}, {{}}, {{Seed: seed(1)}}, some()}
	for d := range api.Depth + 1 {
		l = append(l, []keytree.Held{{Depth: d, Seed: seed(d)}}, []keytree.Held{{Depth: d, At: all - size(d), Seed: seed(d)}})
		if d < 11 {
			var row []keytree.Held
			for at := uint64(0); at < all; at += size(d) {
				row = append(row, keytree.Held{Depth: d, At: at, Seed: seed(int(at) + d)})
			}
			l = append(l, row)
		}
	}
	var ends []keytree.Held
	for _, at := range []uint64{0, 1, 2, 127, 128, 254, 255, 256, 257, 511, 512, 4095, 65279, 65280, 65534, 65535, 65536, 65537, 65791, 65792, all - 2, all - 1} {
		ends = append(ends, keytree.Held{Depth: 17, At: at, Seed: seed(int(at))})
		l = append(l, ends[len(ends)-1:])
	}
	return append(l, ends, leaves(255), leaves(256), leaves(257))
}

// wrong are lists that may not be held, for one reason each.
func wrong() [][]keytree.Held {
	var l [][]keytree.Held
	for _, d := range []int{-1, -2, -17, -256, -255, 18, 19, 64, 255, 256, 256 + 17, 1 << 32, 1<<32 + 17, math.MinInt, math.MinInt + 17, math.MaxInt} {
		l = append(l, []keytree.Held{{Depth: d}})
	}
	for d := range api.Depth + 1 {
		for _, at := range []uint64{all, all + size(d), 2 * all, 1 << 24, 1<<24 + size(d), 1 << 32, 1 << 63, math.MaxUint64 - size(d) + 1, math.MaxUint64} {
			l = append(l, []keytree.Held{{Depth: d, At: at}})
		}
		if d < api.Depth {
			l = append(l, []keytree.Held{{Depth: d, At: 1}}, []keytree.Held{{Depth: d, At: size(d) / 2}}, []keytree.Held{{Depth: d, At: all - 1}})
		}
		for e := range api.Depth + 1 { // one that has a leaf of the one ahead, and one that lies ahead of it
			l = append(l, []keytree.Held{{Depth: d}, {Depth: e}})
			l = append(l, []keytree.Held{{Depth: d, At: all - size(d)}, {Depth: e}})
			l = append(l, []keytree.Held{{Depth: d, At: all - size(d)}, {Depth: e, At: all - size(e)}})
		}
	}
	return l
}

func encodes(t *testing.T, held []keytree.Held, want []byte) {
	t.Helper()
	if b, e := keycode.Encode(held); e != api.OK || !bytes.Equal(b, want) {
		t.Fatalf("Encode of %d nodes: %v, %d bytes: %x, not %x", len(held), e, len(b), b[:min(len(b), 200)], want[:min(len(want), 200)])
	}
}

func encodesNone(t *testing.T, held []keytree.Held, want api.Errno) {
	t.Helper()
	if b, e := keycode.Encode(held); e != want || len(b) != 0 {
		t.Fatalf("Encode of %d nodes: %v, %d bytes, not %v: %v", len(held), e, len(b), want, held[:min(len(held), 20)])
	}
}

func decodes(t *testing.T, b []byte, want []keytree.Held) {
	t.Helper()
	if held, e := keycode.Decode(b); e != api.OK || !slices.Equal(held, want) {
		t.Fatalf("Decode of %d bytes: %v, %v, not %v", len(b), e, held, want)
	}
}

func decodesNone(t *testing.T, b []byte) {
	t.Helper()
	if held, e := keycode.Decode(b); e != api.ErrForm || len(held) != 0 {
		t.Fatalf("Decode of %d bytes: %v, %v: %x", len(b), e, held, b[:min(len(b), 200)])
	}
}

// P7.1

func TestEncodeOfTheExamples(t *testing.T) {
	encodes(t, nil, []byte{0, 0})
	encodes(t, []keytree.Held{}, []byte{0, 0})
	encodes(t, []keytree.Held{{}}, append([]byte{0, 1, 0, 0, 0, 0}, make([]byte, 32)...))
}

func TestEncodeByHand(t *testing.T) {
	encodes(t,
		[]keytree.Held{
			{Depth: 9, At: 0x5700, Seed: api.Key{0: 1, 1: 2, 31: 3}},
			{Depth: 17, At: 0x01fedc, Seed: api.Key{0: 254, 30: 255, 31: 253}},
		},
		[]byte{
			0, 2,
			9, 0, 0x57, 0,
			1, 2, 0, 0, 0, 0, 0, 0, 0, 0, 0, 0, 0, 0, 0, 0, 0, 0, 0, 0, 0, 0, 0, 0, 0, 0, 0, 0, 0, 0, 0, 3,
			17, 1, 0xfe, 0xdc,
			254, 0, 0, 0, 0, 0, 0, 0, 0, 0, 0, 0, 0, 0, 0, 0, 0, 0, 0, 0, 0, 0, 0, 0, 0, 0, 0, 0, 0, 0, 255, 253,
		})
}

func TestEncodeTellsTheirBytes(t *testing.T) {
	for _, held := range lists() {
		encodes(t, held, plain(held))
	}
}

func TestEncodeRefusesWhatMayNotBeHeld(t *testing.T) {
	for _, held := range wrong() {
		encodesNone(t, held, api.ErrForm)
	}
}

// Right ones ahead of it and behind it make no wrong one right.
func TestEncodeLooksAtAllNodes(t *testing.T) {
	for i := range some() {
		for _, change := range []func(l []keytree.Held){
			func(l []keytree.Held) { l[i].Depth = -1 },
			func(l []keytree.Held) { l[i].Depth = 18 },
			func(l []keytree.Held) { l[i].Depth += 256 },
			func(l []keytree.Held) { l[i].At += all },
			func(l []keytree.Held) { l[i].At += 1 << 24 },
			func(l []keytree.Held) { l[i].At += 1 << 63 },
			func(l []keytree.Held) { l[i] = l[(i+1)%len(l)] },
			func(l []keytree.Held) { l[i].Depth, l[i].At = 0, 0 },
			func(l []keytree.Held) { slices.Reverse(l) },
		} {
			held := some()
			change(held)
			encodesNone(t, held, api.ErrForm)
		}
		if held := some(); held[i].Depth < 17 {
			held[i].At++
			encodesNone(t, held, api.ErrForm)
		}
	}
}

func TestEncodeOfAsManyAsTheBytesTell(t *testing.T) {
	for _, n := range []int{65534, 65535} {
		held := leaves(n)
		encodes(t, held, plain(held))
	}
	held := leaves(all)[all-65535:]
	encodes(t, held, plain(held))
}

func TestEncodeOfMore(t *testing.T) {
	for _, n := range []int{65536, 65537, 65536 + 255, 65536 + 256, all - 1, all} {
		encodesNone(t, leaves(n), api.ErrFull)
	}
	encodesNone(t, leaves(all)[all-65536:], api.ErrFull)
}

// Of more than may be told of which one may not be held, that is told first, wherever it stands.
func TestEncodeTellsErrFormFirst(t *testing.T) {
	for _, n := range []int{65535, 65536, all} {
		for _, i := range []int{0, 1, n / 2, 65534, n - 1} {
			for _, change := range []func(h *keytree.Held){
				func(h *keytree.Held) { h.Depth = 18 },
				func(h *keytree.Held) { h.Depth = -1 },
				func(h *keytree.Held) { h.Depth, h.At = 16, h.At|1 },
				func(h *keytree.Held) { h.At += all },
			} {
				held := leaves(n)
				change(&held[i])
				encodesNone(t, held, api.ErrForm)
			}
		}
	}
	encodesNone(t, append(leaves(all), keytree.Held{Depth: 17, At: all}), api.ErrForm)
	encodesNone(t, append(leaves(all), keytree.Held{}), api.ErrForm)
	encodesNone(t, make([]keytree.Held, 65536), api.ErrForm)
	encodesNone(t, make([]keytree.Held, 65537), api.ErrForm)
}

// P7.2

func TestDecodeOfTheExamples(t *testing.T) {
	decodes(t, []byte{0, 0}, nil)
	decodes(t, append([]byte{0, 1, 0, 0, 0, 0}, make([]byte, 32)...), []keytree.Held{{}})
}

func TestDecodeByHand(t *testing.T) {
	b := append([]byte{0, 1, 17, 1, 0xfe, 0xdc}, bytes.Repeat([]byte{7}, 32)...)
	b[6], b[37] = 1, 2
	want := api.Key(bytes.Repeat([]byte{7}, 32))
	want[0], want[31] = 1, 2
	decodes(t, b, []keytree.Held{{Depth: 17, At: 130780, Seed: want}})
}

func TestDecodeTellsWhoseBytesTheyAre(t *testing.T) {
	for _, held := range lists() {
		decodes(t, plain(held), held)
	}
	for _, n := range []int{65534, 65535} {
		decodes(t, plain(leaves(n)), leaves(n))
	}
}

func TestDecodeRefusesBytesOfWhatMayNotBeHeld(t *testing.T) {
	for _, held := range wrong() {
		for _, h := range held {
			if h.Depth < 0 || h.Depth > 255 || h.At >= 1<<24 { // it has no such bytes
				held = nil
			}
		}
		if held != nil {
			decodesNone(t, plain(held))
		}
	}
	for d := 18; d < 256; d++ {
		for _, at := range []uint64{0, 1, all - 1} {
			decodesNone(t, plain([]keytree.Held{{Depth: d, At: at}}))
		}
	}
	for d := range api.Depth + 1 {
		for at := uint64(all); at < 1<<24; at += all / 2 {
			decodesNone(t, plain([]keytree.Held{{Depth: d, At: at}}))
		}
		decodesNone(t, plain([]keytree.Held{{Depth: d, At: 1<<24 - 1}}))
	}
}

func TestDecodeRefusesOtherLengths(t *testing.T) {
	decodesNone(t, nil)
	decodesNone(t, []byte{})
	for c := range 256 {
		decodesNone(t, []byte{byte(c)})
	}
	for _, held := range lists() {
		if len(held) > 40 {
			continue
		}
		b := plain(held)
		for n := range b {
			decodesNone(t, b[:n])
		}
		for n := 1; n <= 80; n++ {
			decodesNone(t, slices.Concat(b, make([]byte, n)))
			decodesNone(t, slices.Concat(b, bytes.Repeat([]byte{17}, n)))
		}
	}
}

// One node more that would follow isn't asked for, and one less isn't all.
func TestDecodeRefusesOtherCounts(t *testing.T) {
	held := some()
	b := plain(held)
	for n := range 1 << 16 {
		b[0], b[1] = byte(n>>8), byte(n)
		if n == len(held) {
			decodes(t, b, held)
		} else {
			decodesNone(t, b)
		}
	}
	decodesNone(t, []byte{0, 1})
	decodesNone(t, []byte{1, 0})
	decodesNone(t, []byte{255, 255})
}

// The number in two bytes that is left of more than 65,535 stands for fewer.
func TestDecodeRefusesMoreThanTheBytesTell(t *testing.T) {
	for _, n := range []int{65536, 65537, all} {
		decodesNone(t, plain(leaves(n)))
	}
}

func TestDecodeLooksAtAllNodes(t *testing.T) {
	for i := range some() {
		for _, change := range []func(b []byte){
			func(b []byte) { b[0] = 18 },
			func(b []byte) { b[0] = 255 },
			func(b []byte) { b[1] |= 2 },
			func(b []byte) { b[1] |= 128 },
			func(b []byte) { b[0], b[1], b[2], b[3] = 0, 0, 0, 0 },
		} {
			b := plain(some())
			change(b[2+36*i:])
			decodesNone(t, b)
		}
		if i > 0 {
			b := plain(some())
			copy(b[2+36*i:], b[2+36*(i-1):2+36*i])
			decodesNone(t, b)
		}
	}
}

// P7.3

// goesRound looks at both ways of any bytes: they are what Encode tells of what Decode takes, or none's.
func goesRound(t *testing.T, b []byte) (taken bool) {
	t.Helper()
	held, ok := plainNodes(b)
	if !ok || !may(held) {
		decodesNone(t, b)
		if ok {
			encodesNone(t, held, api.ErrForm)
		}
		return false
	}
	decodes(t, b, held)
	encodes(t, held, b)
	return true
}

func TestDecodeOfWhatEncodeTells(t *testing.T) {
	for _, held := range append(lists(), leaves(65535)) {
		b, e := keycode.Encode(held)
		if e != api.OK || len(b) != 2+36*len(held) {
			t.Fatalf("Encode of %d nodes: %v, %d bytes", len(held), e, len(b))
		}
		decodes(t, b, held)
	}
}

// Each byte of a row is changed to each other one: those of a seed may be any.
func TestEachByteChanged(t *testing.T) {
	b := plain(some())
	for i := range b {
		was, taken := b[i], 0
		for c := range 256 {
			b[i] = byte(c)
			if goesRound(t, b) {
				taken++
			}
		}
		b[i] = was
		if isSeed := i > 2 && (i-2)%36 >= 4; taken == 0 || isSeed && taken != 256 {
			t.Errorf("byte %d: %d are taken", i, taken)
		}
	}
}

// All nodes that one byte of Depth and three of At may tell, as far as they are near an edge.
func TestEachNode(t *testing.T) {
	taken := 0
	for d := range 256 {
		for _, at := range nearEdges() {
			if goesRound(t, plain([]keytree.Held{{Depth: d, At: at, Seed: seed(d)}})) {
				taken++
			}
		}
	}
	if taken < 100 {
		t.Errorf("%d alone were taken", taken)
	}
}

func nearEdges() []uint64 {
	var l []uint64
	for bit := range 25 {
		for _, at := range []uint64{1<<bit - 1, 1 << bit, 1<<bit + 1, all - 1<<bit, 1<<24 - 1<<bit} {
			if at < 1<<24 {
				l = append(l, at)
			}
		}
	}
	slices.Sort(l)
	return slices.Compact(l)
}

func TestRandomBytes(t *testing.T) {
	random := rand.New(rand.NewSource(7))
	for range 20000 {
		b := make([]byte, 2+random.Intn(120))
		random.Read(b)
		if random.Intn(4) > 0 {
			b = b[:2+(len(b)-2)/36*36]
			b[0], b[1] = 0, byte(len(b)/36)
		}
		goesRound(t, b)
	}
}

// Nodes of a few depths, in a random order: some lists may be held, some may not.
func TestRandomNodes(t *testing.T) {
	random := rand.New(rand.NewSource(8))
	taken := 0
	for range 20000 {
		held := make([]keytree.Held, 1+random.Intn(4))
		for i := range held {
			d := random.Intn(18)
			held[i] = keytree.Held{Depth: d, At: uint64(random.Intn(all)) / size(d) * size(d), Seed: seed(random.Int())}
		}
		if random.Intn(2) > 0 {
			slices.SortFunc(held, func(a, b keytree.Held) int { return int(a.At) - int(b.At) })
		}
		if goesRound(t, plain(held)) {
			taken++
		}
	}
	if taken < 2000 || taken > 18000 {
		t.Errorf("%d were taken", taken)
	}
}

// What trees hold goes round, and the tree that is made of it again tells the same keys.
func TestTreesGoRound(t *testing.T) {
	random := rand.New(rand.NewSource(9))
	x := keytree.New(cipher.Real{}, seed(3))
	for round := range 60 {
		b, e := keycode.Encode(x.Held())
		if e != api.OK || !bytes.Equal(b, plain(x.Held())) {
			t.Fatalf("round %d: %v", round, e)
		}
		held, e := keycode.Decode(b)
		if e != api.OK || !slices.Equal(held, x.Held()) {
			t.Fatalf("round %d: %v, %v", round, e, held)
		}
		again, e := keytree.From(cipher.Real{}, held...)
		if e != api.OK || again.Count() != x.Count() {
			t.Fatalf("round %d: %v", round, e)
		}
		for range 10 {
			n := uint64(random.Intn(all))
			was, had := x.Key(n)
			if k, has := again.Key(n); k != was || has != had {
				t.Fatalf("round %d, leaf %d: %x, %v", round, n, k, has)
			}
			x.Puncture(n)
		}
	}
}

func TestTheFirstLeafIsPunctured(t *testing.T) {
	x := keytree.New(cipher.Real{}, seed(3))
	x.Puncture(0)
	b, e := keycode.Encode(x.Held())
	if e != api.OK || len(b) != 614 || !bytes.Equal(b[:6], []byte{0, 17, 17, 0, 0, 1}) || !bytes.Equal(b[578:582], []byte{1, 1, 0, 0}) {
		t.Errorf("%v, %x", e, b)
	}
}

// Memory

func TestEncodeChangesNothingAndReadsNothingBehindTheLength(t *testing.T) {
	for n := range len(some()) + 1 {
		room := some()
		for i := n; i < len(room); i++ {
			room[i].Depth = 99
		}
		was := slices.Clone(room)
		encodes(t, room[:n], plain(some()[:n]))
		if !slices.Equal(room, was) {
			t.Fatalf("%d nodes: the list changed", n)
		}
	}
}

func TestDecodeChangesNothingAndReadsNothingBehindTheLength(t *testing.T) {
	for n := range len(some()) + 1 {
		room := slices.Concat(plain(some()[:n]), bytes.Repeat([]byte{99}, 80))
		was := slices.Clone(room)
		decodes(t, room[:2+36*n], some()[:n])
		for cut := 1; cut < 36 && n > 0; cut++ { // the room has what is missing
			decodesNone(t, room[:2+36*n-cut])
		}
		if !bytes.Equal(room, was) {
			t.Fatalf("%d nodes: the bytes changed", n)
		}
	}
}

func TestAnswersAreNewMemory(t *testing.T) {
	held := some()
	first, _ := keycode.Encode(held)
	second, _ := keycode.Encode(held)
	clear(first[:cap(first)])
	if !slices.Equal(held, some()) || !bytes.Equal(second, plain(some())) {
		t.Error("a write over the bytes changed something else")
	}
	clear(held)
	if !bytes.Equal(second, plain(some())) {
		t.Error("the bytes changed with the list")
	}
	one, _ := keycode.Decode(second)
	two, _ := keycode.Decode(second)
	clear(one[:cap(one)])
	if !bytes.Equal(second, plain(some())) || !slices.Equal(two, some()) {
		t.Error("a write over the nodes changed something else")
	}
	clear(second)
	if !slices.Equal(two, some()) {
		t.Error("the nodes changed with the bytes")
	}
}

// None is told of none: what is written over one answer shows in no other one.
func TestBytesOfNoneAreNewMemory(t *testing.T) {
	first, _ := keycode.Encode(nil)
	first[1] = 9
	encodes(t, nil, []byte{0, 0})
}
