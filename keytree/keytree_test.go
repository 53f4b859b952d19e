package keytree_test

import (
	"cmp"
	"math"
	"math/rand"
	"slices"
	"testing"

	"erewhile/api"
	"erewhile/cipher"
	"erewhile/keytree"
)

const all = 1 << api.Depth // leaves of the whole tree

// paths is a cipher by which each node's seed tells where it lies: behind what the root has, how deep, and the turns to it, the last one the lowest bit.
type paths struct{ cipher.Real }

func (paths) Split(k api.Key) (left, right api.Key) {
	return below(k, 0), below(k, 1)
}

func below(k api.Key, turn uint64) api.Key {
	turns := 2*(uint64(k[29])<<16|uint64(k[30])<<8|uint64(k[31])) + turn
	k[28]++
	k[29], k[30], k[31] = byte(turns>>16), byte(turns>>8), byte(turns)
	return k
}

// mirrored is another one: it turns to the other side.
type mirrored struct{ paths }

func (m mirrored) Split(k api.Key) (left, right api.Key) {
	right, left = m.paths.Split(k)
	return left, right
}

// size is how many leaves a node at a depth has, counted by halving.
func size(depth int) uint64 {
	n := uint64(all)
	for range depth {
		n /= 2
	}
	return n
}

// halves tells the two nodes below one.
func halves(c api.Cipher, h keytree.Held) (left, right keytree.Held) {
	l, r := c.Split(h.Seed)
	return keytree.Held{Depth: h.Depth + 1, At: h.At, Seed: l}, keytree.Held{Depth: h.Depth + 1, At: h.At + size(h.Depth+1), Seed: r}
}

func has(h keytree.Held, n uint64) bool {
	return h.At <= n && n-h.At < size(h.Depth)
}

// plainKey goes down from whichever node of the list has the leaf.
func plainKey(c api.Cipher, held []keytree.Held, n uint64) (api.Key, bool) {
	for _, h := range held {
		if !has(h, n) {
			continue
		}
		for h.Depth < api.Depth {
			left, right := halves(c, h)
			if h = left; has(right, n) {
				h = right
			}
		}
		return h.Seed, true
	}
	return api.Key{}, false
}

// without tells the nodes that are held behind the leaf n was punctured: a node that has it falls into its halves.
func without(c api.Cipher, held []keytree.Held, n uint64) []keytree.Held {
	var out []keytree.Held
	for _, h := range held {
		if !has(h, n) {
			out = append(out, h)
		} else if h.Depth < api.Depth {
			left, right := halves(c, h)
			out = append(out, without(c, []keytree.Held{left, right}, n)...)
		}
	}
	return out
}

func count(held []keytree.Held) int {
	n := 0
	for _, h := range held {
		n += int(size(h.Depth))
	}
	return n
}

// beyond are numbers that are no leaf's.
func beyond() []uint64 {
	return []uint64{all, all + 1, all + 5, 2*all - 1, 2 * all, 1 << 32, 1<<32 + 5, 1 << 63, 1<<63 + 5, math.MaxUint64 - all + 1, math.MaxUint64 - 1, math.MaxUint64}
}

// edges are leaves at the ends of nodes of all depths, and some between.
func edges() []uint64 {
	l := []uint64{5, 77, 12345, 43690, 87381, 99999}
	for d := range api.Depth + 1 {
		for _, n := range []uint64{0, size(d) - 1, size(d), size(d) + 1, all/2 - size(d), all/2 + size(d) - 1, all - size(d) - 1, all - size(d), all - 1} {
			if n < all {
				l = append(l, n)
			}
		}
	}
	slices.Sort(l)
	return slices.Compact(l)
}

// holds looks whether the tree holds these nodes, in their order, and counts their leaves.
func holds(t *testing.T, x *keytree.Tree, want []keytree.Held) {
	t.Helper()
	if got := x.Held(); !slices.Equal(got, want) {
		t.Fatalf("it holds %d nodes, not the %d: %v, not %v", len(got), len(want), got, want)
	}
	if got := x.Count(); got != count(want) {
		t.Fatalf("%d leaves, not %d", got, count(want))
	}
}

// hasLeaf looks whether Has and Key of one leaf tell what the plain way down tells.
func hasLeaf(t *testing.T, x *keytree.Tree, c api.Cipher, held []keytree.Held, n uint64) {
	t.Helper()
	k, ok := plainKey(c, held, n)
	if got := x.Has(n); got != ok {
		t.Fatalf("Has(%d) = %v", n, got)
	}
	if got, is := x.Key(n); got != k || is != ok {
		t.Fatalf("Key(%d) = %x, %v, not %x, %v", n, got, is, k, ok)
	}
}

func from(t *testing.T, c api.Cipher, held ...keytree.Held) *keytree.Tree {
	t.Helper()
	x, e := keytree.From(c, held...)
	if x == nil || e != api.OK {
		t.Fatalf("From(%v) = %v, %v", held, x, e)
	}
	return x
}

// some are nodes with gaps between them, two of them halves of one, each with a seed of its own.
func some() []keytree.Held {
	return []keytree.Held{
		{Depth: 17, At: 3, Seed: api.Key{1}},
		{Depth: 16, At: 4, Seed: api.Key{2}},
		{Depth: 17, At: 6, Seed: api.Key{3}},
		{Depth: 17, At: 7, Seed: api.Key{4}},
		{Depth: 12, At: 64, Seed: api.Key{5}},
		{Depth: 2, At: all / 2, Seed: api.Key{6}},
		{Depth: 3, At: all/2 + all/4, Seed: api.Key{7}},
		{Depth: 17, At: all - 1, Seed: api.Key{8}},
	}
}

// P6.1

func TestNewHoldsTheRoot(t *testing.T) {
	for _, seed := range []api.Key{{}, {9}, {31: 1}, {0: 255, 31: 255}} {
		for _, c := range []api.Cipher{paths{}, cipher.Real{}} {
			x := keytree.New(c, seed)
			holds(t, x, []keytree.Held{{Seed: seed}})
			if x.Count() != 131072 {
				t.Errorf("%d leaves", x.Count())
			}
		}
	}
}

func TestNewOfNoCipherIsNil(t *testing.T) {
	if x := keytree.New(nil, api.Key{1}); x != nil {
		t.Errorf("%v", x)
	}
}

func TestFromHoldsThese(t *testing.T) {
	for _, held := range [][]keytree.Held{
		nil,
		{},
		{{}},
		{{Seed: api.Key{7}}},
		{{Depth: 17}},
		{{Depth: 17, At: all - 1, Seed: api.Key{3}}},
		{{Depth: 1}, {Depth: 1, At: all / 2}},
		{{Depth: 1, At: all / 2}},
		some(),
	} {
		holds(t, from(t, paths{}, held...), held)
	}
}

func TestFromTakesAllLeavesOneByOne(t *testing.T) {
	var held []keytree.Held
	for n := range uint64(all) {
		held = append(held, keytree.Held{Depth: 17, At: n, Seed: api.Key{byte(n), byte(n >> 8), byte(n >> 16)}})
	}
	x := from(t, paths{}, held...)
	holds(t, x, held)
	for n := range uint64(all) {
		if k, ok := x.Key(n); k != held[n].Seed || !ok {
			t.Fatalf("Key(%d) = %x, %v", n, k, ok)
		}
	}
}

// At each depth the places that are a multiple of its nodes' leaves, and no others.
func TestFromTakesEachDepthsOwnPlaces(t *testing.T) {
	for d := range api.Depth + 1 {
		took := 0
		for _, at := range edges() {
			h := keytree.Held{Depth: d, At: at, Seed: api.Key{byte(d)}}
			if at%size(d) != 0 {
				refuses(t, h)
				continue
			}
			took++
			holds(t, from(t, paths{}, h), []keytree.Held{h})
		}
		if took < min(1<<d, 4) {
			t.Errorf("of depth %d: %d alone", d, took)
		}
	}
}

// refuses looks whether From tells nil and ErrForm of a list.
func refuses(t *testing.T, held ...keytree.Held) {
	t.Helper()
	if x, e := keytree.From(paths{}, held...); x != nil || e != api.ErrForm {
		t.Fatalf("From(%v) = %v, %v", held, x, e)
	}
}

func TestFromRefusesOtherDepths(t *testing.T) {
	for _, d := range []int{-1, -2, -17, -64, 18, 19, 20, 64, 65, 81, 256, 256 + 17, 1 << 32, 1<<32 + 17, math.MinInt, math.MinInt + 17, math.MaxInt} {
		for _, at := range []uint64{0, 1, 2, 64, all / 2, all - 1, all} {
			refuses(t, keytree.Held{Depth: d, At: at})
			refuses(t, keytree.Held{Depth: 17}, keytree.Held{Depth: d, At: at})
			refuses(t, keytree.Held{Depth: d, At: at}, keytree.Held{Depth: 17, At: all - 1})
		}
	}
}

func TestFromRefusesWhatIsNoLeaf(t *testing.T) {
	for d := range api.Depth + 1 {
		for _, at := range append(beyond(), math.MaxUint64-size(d)+1, math.MaxUint64-2*size(d)+1) {
			refuses(t, keytree.Held{Depth: d, At: at})
			refuses(t, keytree.Held{Depth: 17}, keytree.Held{Depth: d, At: at})
		}
	}
}

func TestFromRefusesNodesThatAreNotBehindOneAnother(t *testing.T) {
	for d := range api.Depth + 1 {
		h := keytree.Held{Depth: d, At: all - size(d)}
		if d > 2 {
			h.At = all/2 + size(d)
		}
		refuses(t, h, h)
		for e := range api.Depth + 1 {
			first, last := h.At, h.At+size(d)-1
			refuses(t, h, keytree.Held{Depth: e}) // ahead of it, or over it
			refuses(t, h, keytree.Held{Depth: e, At: first / size(e) * size(e)})
			refuses(t, h, keytree.Held{Depth: e, At: last / size(e) * size(e)})
			next := keytree.Held{Depth: e, At: h.At + size(d)}
			if next.At < all && next.At%size(e) == 0 { // right behind it is behind it
				holds(t, from(t, paths{}, h, next), []keytree.Held{h, next})
			}
		}
	}
}

func TestFromLooksAtAllNodes(t *testing.T) {
	for i := range some() {
		held := some()
		held[i].Depth = 18
		refuses(t, held...)
		held = some()
		held[i].At = all
		refuses(t, held...)
		if i > 0 {
			held = some()
			held[i] = held[i-1]
			refuses(t, held...)
			held = some()
			held[i], held[i-1] = held[i-1], held[i]
			refuses(t, held...)
		}
		if held = some(); held[i].Depth < 17 {
			held[i].At++
			refuses(t, held...)
		}
	}
}

func TestFromOfNoCipherTellsSoFirst(t *testing.T) {
	for _, held := range [][]keytree.Held{nil, {{}}, some(), {{Depth: -1}}, {{Depth: 18}}, {{At: 1}}, {{At: all}}, {{}, {}}} {
		if x, e := keytree.From(nil, held...); x != nil || e != api.ErrArg {
			t.Errorf("From(nil, %v) = %v, %v", held, x, e)
		}
	}
}

func TestFromKeepsNothingOfTheListAndChangesNothing(t *testing.T) {
	room := append(some(), keytree.Held{Depth: 99}, keytree.Held{Depth: 98})
	given := room[:len(some())]
	x := from(t, paths{}, given...)
	clear(room)
	holds(t, x, some())

	room = append(some(), keytree.Held{Depth: 99}, keytree.Held{Depth: 98})
	given = room[:len(some())]
	x = from(t, paths{}, given...)
	for _, n := range []uint64{5, 6, 70, all / 2, all - 1} {
		if !x.Puncture(n) {
			t.Fatalf("Puncture(%d)", n)
		}
	}
	if !slices.Equal(given, some()) || room[len(room)-2].Depth != 99 || room[len(room)-1].Depth != 98 {
		t.Errorf("the list changed with the tree: %v", room)
	}
}

// P6.2

func TestKeyOfEachLeafOfTheWholeTree(t *testing.T) {
	x := keytree.New(paths{}, api.Key{9})
	for n := range uint64(all) {
		want := api.Key{0: 9, 28: 17, 29: byte(n >> 16), 30: byte(n >> 8), 31: byte(n)}
		if k, ok := x.Key(n); k != want || !ok || !x.Has(n) {
			t.Fatalf("Key(%d) = %x, %v, not %x", n, k, ok, want)
		}
	}
	holds(t, x, []keytree.Held{{Seed: api.Key{9}}})
}

func TestKeysAreThoseOfTheCipherThatIsHandedIn(t *testing.T) {
	for _, c := range []api.Cipher{paths{}, mirrored{}, cipher.Real{}, &cipher.Real{}} {
		for _, held := range [][]keytree.Held{{{Seed: api.Key{7, 8}}}, some()} {
			x := from(t, c, held...)
			for _, n := range edges() {
				hasLeaf(t, x, c, held, n)
			}
		}
	}
}

// The keys at both ends of the real cipher's tree are what 17 splits to one side tell.
func TestKeysAtBothEnds(t *testing.T) {
	first, last := api.Key{1, 2, 3}, api.Key{1, 2, 3}
	for range 17 {
		first, _ = cipher.Real{}.Split(first)
		_, last = cipher.Real{}.Split(last)
	}
	x := keytree.New(cipher.Real{}, api.Key{1, 2, 3})
	if k, ok := x.Key(0); k != first || !ok {
		t.Errorf("Key(0) = %x, %v, not %x", k, ok, first)
	}
	if k, ok := x.Key(131071); k != last || !ok {
		t.Errorf("Key(131,071) = %x, %v, not %x", k, ok, last)
	}
}

func TestAHeldLeafsKeyIsItsSeed(t *testing.T) {
	x := from(t, cipher.Real{}, some()...)
	for _, h := range some() {
		if k, ok := x.Key(h.At); h.Depth == 17 && (k != h.Seed || !ok) {
			t.Errorf("Key(%d) = %x, %v", h.At, k, ok)
		}
	}
}

func TestWhichLeavesANodeHas(t *testing.T) {
	for d := 1; d <= api.Depth; d++ {
		for _, at := range []uint64{0, size(d), all - 2*size(d), all - size(d)} {
			held := []keytree.Held{{Depth: d, At: at, Seed: api.Key{4}}}
			x := from(t, paths{}, held...)
			for _, n := range []uint64{at - 2, at - 1, at, at + 1, at + size(d) - 2, at + size(d) - 1, at + size(d), at + size(d) + 1} {
				hasLeaf(t, x, paths{}, held, n)
			}
		}
	}
}

func TestWhichLeavesNodesWithGapsHave(t *testing.T) {
	x := from(t, paths{}, some()...)
	for n := range uint64(all) {
		hasLeaf(t, x, paths{}, some(), n)
	}
}

func TestNoTreeHasWhatIsNoLeaf(t *testing.T) {
	last := keytree.Held{Depth: 17, At: all - 1}
	for _, x := range []*keytree.Tree{keytree.New(paths{}, api.Key{9}), from(t, paths{}), from(t, paths{}, some()...), from(t, paths{}, last)} {
		before := x.Held()
		for _, n := range beyond() {
			if k, ok := x.Key(n); k != (api.Key{}) || ok || x.Has(n) || x.Puncture(n) {
				t.Errorf("%d: %x, %v", n, k, ok)
			}
		}
		holds(t, x, before)
	}
}

func TestATreeOfNoNodesHasNone(t *testing.T) {
	x := from(t, paths{})
	for _, n := range edges() {
		if k, ok := x.Key(n); k != (api.Key{}) || ok || x.Has(n) || x.Puncture(n) {
			t.Errorf("%d: %x, %v", n, k, ok)
		}
	}
	holds(t, x, nil)
	holds(t, x.Clone(), nil)
}

func TestHeldTellsNewMemory(t *testing.T) {
	for _, x := range []*keytree.Tree{keytree.New(paths{}, api.Key{9}), from(t, paths{}, some()...)} {
		x.Puncture(70)
		want := x.Held()
		first := x.Held()
		clear(first[:cap(first)])
		_ = append(x.Held(), keytree.Held{Depth: 99})
		holds(t, x, want)
		told := x.Held()
		x.Puncture(71)
		if !slices.Equal(told, want) {
			t.Errorf("what was told changed with the tree: %v", told)
		}
	}
}

func TestAskingChangesNothing(t *testing.T) {
	x := from(t, cipher.Real{}, some()...)
	for range 2 {
		for _, n := range edges() {
			hasLeaf(t, x, cipher.Real{}, some(), n)
		}
		x.Clone()
		holds(t, x, some())
	}
}

// P6.3

func TestPunctureOfTheExamples(t *testing.T) {
	x := keytree.New(cipher.Real{}, api.Key{1})
	if !x.Puncture(0) {
		t.Fatal("0")
	}
	held := x.Held()
	if len(held) != 17 || held[0].Depth != 17 || held[0].At != 1 || held[16].Depth != 1 || held[16].At != 65536 {
		t.Fatalf("%v", held)
	}
	for i, h := range held {
		if h.Depth != 17-i || h.At != 1<<i {
			t.Errorf("%d: of depth %d at %d", i, h.Depth, h.At)
		}
	}
	if !x.Puncture(1) {
		t.Fatal("1")
	}
	holds(t, x, held[1:])
}

// Behind one puncture it holds each node beside the way down, and each has the seed that the cipher tells.
func TestPunctureOfTheWholeTree(t *testing.T) {
	for _, c := range []api.Cipher{paths{}, mirrored{}, cipher.Real{}} {
		for _, n := range edges() {
			root := keytree.Held{Seed: api.Key{9}}
			x := keytree.New(c, root.Seed)
			if !x.Puncture(n) {
				t.Fatalf("Puncture(%d)", n)
			}
			held := x.Held()
			holds(t, x, without(c, []keytree.Held{root}, n))
			if len(held) != 17 || x.Count() != all-1 {
				t.Fatalf("%d nodes, %d leaves", len(held), x.Count())
			}
			byDepth := slices.SortedFunc(slices.Values(held), func(a, b keytree.Held) int { return cmp.Compare(a.Depth, b.Depth) })
			for i, h := range byDepth {
				if at := (n/size(i+1) ^ 1) * size(i+1); h.Depth != i+1 || h.At != at {
					t.Fatalf("Puncture(%d): of depth %d at %d, not of %d at %d", n, h.Depth, h.At, i+1, at)
				}
			}
		}
	}
}

// Other nodes stay as they are, those that are halves of one as well.
func TestPunctureOfNodesWithGaps(t *testing.T) {
	for _, c := range []api.Cipher{paths{}, cipher.Real{}} {
		for _, n := range edges() {
			x := from(t, c, some()...)
			_, had := plainKey(c, some(), n)
			if got := x.Puncture(n); got != had {
				t.Fatalf("Puncture(%d) = %v", n, got)
			}
			holds(t, x, without(c, some(), n))
		}
	}
}

func TestPunctureOfAHeldLeafLeavesNothingInItsPlace(t *testing.T) {
	for _, n := range []uint64{3, 6, 7, all - 1} {
		x := from(t, paths{}, some()...)
		if !x.Puncture(n) || x.Has(n) {
			t.Errorf("%d", n)
		}
		holds(t, x, slices.DeleteFunc(some(), func(h keytree.Held) bool { return h.At == n }))
	}
	x := from(t, paths{}, keytree.Held{Depth: 17, At: 5})
	if !x.Puncture(5) || x.Puncture(5) {
		t.Error("the only leaf")
	}
	holds(t, x, nil)
}

func TestPunctureOfWhatItHasNotChangesNothing(t *testing.T) {
	x := keytree.New(paths{}, api.Key{9})
	x.Puncture(4)
	before := x.Held()
	for _, n := range append(beyond(), 4) {
		if x.Puncture(n) {
			t.Errorf("Puncture(%d)", n)
		}
		holds(t, x, before)
	}
	x = from(t, paths{}, some()...)
	for _, n := range append(beyond(), 0, 2, 8, 63, 96, all/2-1, all/2+all/4+all/8, all-2) {
		if x.Puncture(n) {
			t.Errorf("Puncture(%d), of some nodes", n)
		}
		holds(t, x, some())
	}
}

func TestCloneHoldsTheSame(t *testing.T) {
	for _, c := range []api.Cipher{paths{}, mirrored{}, cipher.Real{}} {
		x := from(t, c, some()...)
		y := x.Clone()
		holds(t, y, some())
		for _, n := range edges() {
			hasLeaf(t, y, c, some(), n)
		}
		holds(t, y.Clone(), some())
	}
}

// Whatever room a tree's list has, what is done to one of both shows in the other one nowhere.
func TestCloneIsATreeOfItsOwn(t *testing.T) {
	random := rand.New(rand.NewSource(6))
	x := keytree.New(paths{}, api.Key{9})
	want := x.Held()
	for range 60 {
		y, also := x.Clone(), slices.Clone(want)
		for range 5 {
			n, m := uint64(random.Intn(200)), uint64(random.Intn(all))
			x.Puncture(n)
			want = without(paths{}, want, n)
			holds(t, y, also)
			y.Puncture(m)
			also = without(paths{}, also, m)
			holds(t, x, want)
			holds(t, y, also)
		}
	}
}

// P6.4

// stands looks whether the nodes have just the leaves that are there, each in one node, and each node's seed is the tree's.
func stands(t *testing.T, x *keytree.Tree, root keytree.Held, there []bool) {
	t.Helper()
	held := x.Held()
	next, have := uint64(0), 0
	for _, h := range held {
		if h.At < next {
			t.Fatalf("%d lies ahead of %d", h.At, next)
		}
		for ; next < h.At; next++ {
			if there[next] {
				t.Fatalf("no node has %d", next)
			}
		}
		for ; next < h.At+size(h.Depth); next++ {
			if !there[next] {
				t.Fatalf("%v has %d", h, next)
			}
			have++
		}
		turns := h.At / size(h.Depth)
		want := root.Seed
		want[28], want[29], want[30], want[31] = byte(h.Depth), byte(turns>>16), byte(turns>>8), byte(turns)
		if h.Seed != want {
			t.Fatalf("of depth %d at %d: %x, not %x", h.Depth, h.At, h.Seed, want)
		}
	}
	for ; next < all; next++ {
		if there[next] {
			t.Fatalf("no node has %d", next)
		}
	}
	if x.Count() != have || len(held) > have {
		t.Fatalf("%d nodes, and it counts %d leaves, not %d", len(held), x.Count(), have)
	}
}

func TestBehindManyPuncturesAllOtherLeavesAreThere(t *testing.T) {
	random := rand.New(rand.NewSource(66))
	for _, most := range []int{40, 3000, all} { // leaves close to one another, and far from one another
		root := keytree.Held{Seed: api.Key{byte(most), 3}}
		x := keytree.New(paths{}, root.Seed)
		there := slices.Repeat([]bool{true}, all)
		for i := range 2000 {
			n := uint64(random.Intn(most))
			if got := x.Puncture(n); got != there[n] {
				t.Fatalf("Puncture(%d) = %v", n, got)
			}
			there[n] = false
			if x.Has(n) || x.Puncture(n) {
				t.Fatalf("it has %d still", n)
			}
			if i%200 == 0 || i < 10 {
				stands(t, x, root, there)
			}
		}
		stands(t, x, root, there)
		for n := range uint64(all) {
			want := api.Key{}
			if there[n] {
				want = api.Key{0: byte(most), 1: 3, 28: 17, 29: byte(n >> 16), 30: byte(n >> 8), 31: byte(n)}
			}
			if k, ok := x.Key(n); k != want || ok != there[n] || x.Has(n) != ok {
				t.Fatalf("Key(%d) = %x, %v, not %x", n, k, ok, want)
			}
		}
	}
}

// In whatever order leaves are punctured, the same nodes are held behind it.
func TestTheOrderOfPuncturesPlaysNoPart(t *testing.T) {
	random := rand.New(rand.NewSource(67))
	leaves := edges()
	want := keytree.New(cipher.Real{}, api.Key{2})
	for _, n := range leaves {
		want.Puncture(n)
	}
	for range 20 {
		random.Shuffle(len(leaves), func(i, j int) { leaves[i], leaves[j] = leaves[j], leaves[i] })
		x := keytree.New(cipher.Real{}, api.Key{2})
		for _, n := range leaves {
			if !x.Puncture(n) {
				t.Fatalf("Puncture(%d)", n)
			}
		}
		holds(t, x, want.Held())
	}
}

func TestKeysStayAsTheyWere(t *testing.T) {
	x := keytree.New(cipher.Real{}, api.Key{5})
	was := keytree.New(cipher.Real{}, api.Key{5})
	gone := map[uint64]bool{}
	for _, n := range edges() {
		if n%3 != 0 {
			x.Puncture(n)
			gone[n] = true
		}
	}
	look := func(x *keytree.Tree) {
		for _, n := range append(edges(), 1000, 2000, 50000, 100000) {
			want, _ := was.Key(n)
			if gone[n] {
				want = api.Key{}
			}
			if k, ok := x.Key(n); k != want || ok == gone[n] {
				t.Fatalf("Key(%d) = %x, %v, not %x", n, k, ok, want)
			}
		}
	}
	look(x)
	look(x.Clone())
	look(from(t, cipher.Real{}, x.Held()...)) // what is held is taken again
}

func TestAllLeavesArePunctured(t *testing.T) {
	for _, at := range []func(n uint64) uint64{
		func(n uint64) uint64 { return n },
		func(n uint64) uint64 { return all - 1 - n },
	} {
		x := keytree.New(paths{}, api.Key{9})
		for n := range uint64(all) {
			if !x.Puncture(at(n)) || x.Count() != all-1-int(n) {
				t.Fatalf("Puncture(%d): %d are left", at(n), x.Count())
			}
		}
		holds(t, x, nil)
		if x.Has(0) || x.Has(all-1) || x.Puncture(0) {
			t.Error("a leaf is left")
		}
	}
}

// Each second leaf gone: as many nodes as leaves.
func TestEachSecondLeaf(t *testing.T) {
	x := keytree.New(paths{}, api.Key{9})
	there := slices.Repeat([]bool{false, true}, all/2)
	for n := uint64(0); n < all; n += 2 {
		x.Puncture(n)
	}
	stands(t, x, keytree.Held{Seed: api.Key{9}}, there)
	if len(x.Held()) != all/2 || x.Count() != all/2 {
		t.Errorf("%d nodes, %d leaves", len(x.Held()), x.Count())
	}
}

// No tree, and a zero one

func TestNoTreeHasNothing(t *testing.T) {
	var none *keytree.Tree
	var zero keytree.Tree
	for _, x := range []*keytree.Tree{none, &zero, zero.Clone()} {
		for _, n := range append(beyond(), 0, 1, all/2, all-1) {
			if k, ok := x.Key(n); k != (api.Key{}) || ok || x.Has(n) || x.Puncture(n) {
				t.Errorf("%d: %x, %v", n, k, ok)
			}
		}
		if len(x.Held()) != 0 || x.Count() != 0 {
			t.Errorf("%v, %d", x.Held(), x.Count())
		}
	}
	if none.Clone() != nil {
		t.Error("a clone of none")
	}
	if zero.Clone() == nil {
		t.Error("no clone of a zero one")
	}
}
