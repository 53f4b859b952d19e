package pack_test

import (
	"bytes"
	"encoding/hex"
	"fmt"
	"math"
	"math/rand"
	"slices"
	"strings"
	"testing"

	"erewhile/api"
	"erewhile/cell"
	"erewhile/pack"
)

// text is a row of bytes of which hardly two pieces are alike.
func text(size int) []byte {
	b := make([]byte, size)
	for i := range b {
		b[i] = byte(i*i>>3 + 5*i + i>>8 + 1)
	}
	return b
}

// Cells of all sizes that there are but those of a Delta: 46, 13, 13, 11, 21, 9, and 7 bytes.
func full(num uint64) api.Cell {
	return api.Cell{Kind: api.Full, Num: num, Min: 3, Place: api.Place{Branch: 1, Vol: 2, Blk: 77}, Body: text(32)}
}

func same(num uint64) api.Cell {
	return api.Cell{Kind: api.Same, Num: num + 1, Min: 4, Place: api.Place{Vol: 7, Blk: 255}, Ref: num}
}

func fork(num uint64) api.Cell {
	return api.Cell{Kind: api.Fork, Num: num + 1, Min: 4, Place: api.Place{Branch: 15, Vol: 14}, Ref: num}
}

func drop(num uint64) api.Cell {
	return api.Cell{Kind: api.Drop, Num: num, Min: 1 << 30, Place: api.Place{Branch: 9}}
}

func hold(num uint64) api.Cell {
	return api.Cell{Kind: api.Hold, Num: num, Ref: 65535, From: 5, To: 6, Until: 1}
}

func lift(num uint64) api.Cell { return api.Cell{Kind: api.Lift, Num: num, Min: 8, Ref: 1} }

func mark(num uint64) api.Cell { return api.Cell{Kind: api.Mark, Num: num, Min: 9} }

// delta has so many bytes in all, from 15 to 34.
func delta(size int) api.Cell {
	return api.Cell{Kind: api.Delta, Num: 300, Min: 4, Place: api.Place{Branch: 3, Blk: 1}, Ref: 299, Body: text(size - 14)}
}

// ofSize is a cell with so many bytes, where there is one.
func ofSize(size int) (c api.Cell, ok bool) {
	if size >= 15 && size <= 34 && size != 21 {
		return delta(size), true
	}
	switch size {
	case 46:
		return full(1), true
	case 13:
		return same(2), true
	case 11:
		return drop(3), true
	case 21:
		return hold(4), true
	case 9:
		return lift(5), true
	case 7:
		return mark(6), true
	}
	return c, false
}

// sizes are all sizes that cells have.
func sizes() (l []int) {
	for size := range 60 {
		if _, ok := ofSize(size); ok {
			l = append(l, size)
		}
	}
	return l
}

// some is a cell by chance.
func some(r *rand.Rand) api.Cell {
	num := uint64(1 + r.Intn(65534))
	makers := []func(uint64) api.Cell{full, same, fork, drop, hold, lift, mark}
	if n := r.Intn(len(makers) + 2); n < len(makers) {
		return makers[n](num)
	}
	return delta(15 + r.Intn(20))
}

// row is the cells' bytes, one behind the other.
func row(t *testing.T, l ...api.Cell) (b []byte) {
	t.Helper()
	for _, c := range l {
		more, e := cell.Encode(c)
		if e != api.OK {
			t.Fatalf("the test's own %+v isn't a cell", c)
		}
		b = append(b, more...)
	}
	return b
}

// plain looks from each cell that begins a body how far that one reaches, and only then writes it down.
func plain(t *testing.T, l []api.Cell) (bodies [][]byte, in []int) {
	t.Helper()
	for from, to := 0, 0; from < len(l); from = to {
		for to = from; to < len(l) && len(row(t, l[from:to+1]...)) <= 103; to++ {
			in = append(in, len(bodies))
		}
		bodies = append(bodies, row(t, l[from:to]...))
	}
	return bodies, in
}

// alike tells whether two rows of cells are the same.
func alike(a, b []api.Cell) bool { return slices.EqualFunc(a, b, cell.Same) }

func equal(a, b [][]byte) bool {
	return slices.EqualFunc(a, b, func(x, y []byte) bool { return bytes.Equal(x, y) })
}

// opened is what all bodies tell, one behind the other.
func opened(t *testing.T, bodies [][]byte) (l []api.Cell) {
	t.Helper()
	for _, b := range bodies {
		c, ok := pack.Open(b)
		if !ok || len(c) == 0 {
			t.Errorf("Open(%x) = %+v, %v", b, c, ok)
		}
		l = append(l, c...)
	}
	return l
}

// fills looks that the cells are filled as the plain steps do it, and told again.
func fills(t *testing.T, l []api.Cell) {
	t.Helper()
	want, at := plain(t, l)
	bodies, in, e := pack.Fill(l...)
	if e != api.OK || !equal(bodies, want) || !slices.Equal(in, at) {
		t.Fatalf("Fill(%+v) = %x, %v, %v, not %x, %v", l, bodies, in, e, want, at)
	}
	if back := opened(t, bodies); !alike(back, l) {
		t.Fatalf("Fill(%+v) is told again as %+v", l, back)
	}
	if len(bodies) > pack.Worst(len(l)) {
		t.Fatalf("Fill(%+v) takes %d bodies, more than %d", l, len(bodies), pack.Worst(len(l)))
	}
}

// isIn looks in which bodies cells come, and how many bytes these have.
func isIn(t *testing.T, l []api.Cell, at []int, lens ...int) {
	t.Helper()
	bodies, in, e := pack.Fill(l...)
	var have []int
	for _, b := range bodies {
		have = append(have, len(b))
	}
	if e != api.OK || !slices.Equal(in, at) || !slices.Equal(have, lens) {
		t.Errorf("Fill(%+v): in %v, of %v bytes, %v; not in %v, of %v", l, in, have, e, at, lens)
	}
	fills(t, l)
}

// isNone looks that Fill tells these cells none.
func isNone(t *testing.T, l ...api.Cell) {
	t.Helper()
	if bodies, in, e := pack.Fill(l...); bodies != nil || in != nil || e != api.ErrForm {
		t.Errorf("Fill(%+v) = %x, %v, %v", l, bodies, in, e)
	}
}

// wrong are cells that may not be.
func wrong() (l []api.Cell) {
	l = append(l, api.Cell{}, same(65535), api.Cell{Kind: 9, Num: 1})
	for _, c := range []api.Cell{full(1), same(2), delta(20), fork(3), drop(4), hold(5), lift(6), mark(7)} {
		early, other := c, c
		early.Num, other.Kind = 0, 0
		l = append(l, early, other)
	}
	for _, size := range []int{0, 31, 33, 104} {
		c := full(1)
		c.Body = text(size)
		l = append(l, c)
	}
	for _, size := range []int{14, 35, 300} {
		l = append(l, delta(size))
	}
	return l
}

// P13.1

func TestFillByHand(t *testing.T) {
	want := strings.ReplaceAll("08 0005 00000009 07 0004 00000008 0001 01 0003 00000003 01 02 004d 0000 20"+hex.EncodeToString(text(32)), " ", "")
	bodies, in, e := pack.Fill(mark(5), lift(4), full(3))
	if e != api.OK || len(bodies) != 1 || hex.EncodeToString(bodies[0]) != want || !slices.Equal(in, []int{0, 0, 0}) {
		t.Errorf("%x, %v, %v", bodies, in, e)
	}
}

func TestFillOfTheExample(t *testing.T) {
	isIn(t, []api.Cell{full(1), full(2), mark(3)}, []int{0, 0, 0}, 99)
	isIn(t, []api.Cell{full(1), full(2), mark(3), full(4)}, []int{0, 0, 0, 1}, 99, 46)
	isIn(t, []api.Cell{full(1), full(2), full(3)}, []int{0, 0, 1}, 92, 46)
}

func TestFillOfNone(t *testing.T) {
	for _, l := range [][]api.Cell{nil, {}} {
		if bodies, in, e := pack.Fill(l...); len(bodies) != 0 || len(in) != 0 || e != api.OK {
			t.Errorf("%x, %v, %v", bodies, in, e)
		}
	}
	if bodies, in, e := pack.Fill(); len(bodies) != 0 || len(in) != 0 || e != api.OK {
		t.Errorf("%x, %v, %v", bodies, in, e)
	}
}

func TestFillOfOne(t *testing.T) {
	for _, size := range sizes() {
		c, _ := ofSize(size)
		isIn(t, []api.Cell{c}, []int{0}, size)
	}
	isIn(t, []api.Cell{fork(1)}, []int{0}, 13)
}

// A body has up to 103 bytes: a cell that ends at 103 is in it, one that ends at 104 begins the next one.
func TestFillUpToTheEdge(t *testing.T) {
	isIn(t, []api.Cell{full(1), full(2), drop(3)}, []int{0, 0, 0}, 103)
	isIn(t, []api.Cell{full(1), full(2), drop(3), mark(4)}, []int{0, 0, 0, 1}, 103, 7)
	isIn(t, []api.Cell{full(1), full(2), same(3)}, []int{0, 0, 1}, 92, 13)
	isIn(t, []api.Cell{full(1), delta(34), delta(23)}, []int{0, 0, 0}, 103)
	isIn(t, []api.Cell{full(1), delta(34), delta(24)}, []int{0, 0, 1}, 80, 24)
	isIn(t, []api.Cell{hold(1), hold(2), hold(3), hold(4), delta(19)}, []int{0, 0, 0, 0, 0}, 103)
	isIn(t, []api.Cell{hold(1), hold(2), hold(3), hold(4), delta(20)}, []int{0, 0, 0, 0, 1}, 84, 20)
	var marks []api.Cell
	for n := range 29 {
		marks = append(marks, mark(uint64(n+1)))
	}
	isIn(t, marks, []int{0, 0, 0, 0, 0, 0, 0, 0, 0, 0, 0, 0, 0, 0, 1, 1, 1, 1, 1, 1, 1, 1, 1, 1, 1, 1, 1, 1, 2}, 98, 98, 7)
}

// A cell that would fit into an elder body, but not into the last one, doesn't come there, and none overtakes another.
func TestFillKeepsTheOrder(t *testing.T) {
	isIn(t, []api.Cell{full(1), full(2), hold(3), mark(4)}, []int{0, 0, 1, 1}, 92, 28)
	isIn(t, []api.Cell{full(1), hold(2), full(3), full(4), mark(5), lift(6)}, []int{0, 0, 1, 1, 1, 2}, 67, 99, 9)
	isIn(t, []api.Cell{delta(34), delta(34), full(3), delta(34), full(4), drop(5), drop(6), mark(7)}, []int{0, 0, 1, 1, 2, 2, 2, 2}, 68, 80, 75)
	isIn(t, []api.Cell{full(9), full(1), full(9), full(1)}, []int{0, 0, 1, 1}, 92, 92)
}

func TestFillOfAllPairsAndTriples(t *testing.T) {
	for _, one := range sizes() {
		for _, two := range sizes() {
			for _, three := range sizes() {
				var l []api.Cell
				for _, size := range []int{one, two, three} {
					c, _ := ofSize(size)
					l = append(l, c)
				}
				bodies, in, e := pack.Fill(l...)
				want := []int{0, 0, 0}
				if one+two+three > 103 {
					want = []int{0, 0, 1}
				}
				if e != api.OK || !slices.Equal(in, want) || len(bodies) != want[2]+1 {
					t.Fatalf("%d, %d and %d bytes: %v, %v", one, two, three, in, e)
				}
			}
		}
	}
}

func TestFillByChance(t *testing.T) {
	r := rand.New(rand.NewSource(13))
	for range 3000 {
		l := make([]api.Cell, r.Intn(30))
		for i := range l {
			l[i] = some(r)
		}
		fills(t, l)
	}
}

func TestFillOfMany(t *testing.T) {
	var l []api.Cell
	for n := range 20000 {
		l = append(l, full(uint64(n+1)))
	}
	bodies, in, e := pack.Fill(l...)
	if e != api.OK || len(bodies) != 10000 || len(in) != 20000 {
		t.Fatal(len(bodies), len(in), e)
	}
	for n, at := range in {
		if at != n/2 {
			t.Fatalf("cell %d is in %d", n, at)
		}
	}
	if back := opened(t, bodies); !alike(back, l) {
		t.Error("not told again")
	}
}

func TestFillOfWhatMayNotBe(t *testing.T) {
	for _, c := range wrong() {
		isNone(t, c)
		isNone(t, c, c)
		isNone(t, c, mark(1))
		isNone(t, mark(1), c)
		isNone(t, full(1), full(2), c, full(3))
		isNone(t, full(1), full(2), mark(3), full(3), c)
	}
}

// P13.2

func TestOpenByHand(t *testing.T) {
	b, err := hex.DecodeString("08000500000009" + "070004000000080001" + "08ffff40000000")
	if err != nil {
		t.Fatal(err)
	}
	l, ok := pack.Open(b)
	if !ok || !alike(l, []api.Cell{mark(5), lift(4), {Kind: api.Mark, Num: 65535, Min: 1 << 30}}) {
		t.Errorf("%+v, %v", l, ok)
	}
}

func TestOpenOfNoBytes(t *testing.T) {
	for _, b := range [][]byte{nil, {}, text(20)[:0]} {
		if l, ok := pack.Open(b); !ok || len(l) != 0 {
			t.Errorf("%+v, %v", l, ok)
		}
	}
}

// isOpen looks that bytes are these cells'.
func isOpen(t *testing.T, b []byte, want ...api.Cell) {
	t.Helper()
	if l, ok := pack.Open(b); !ok || !alike(l, want) {
		t.Errorf("Open(%x) = %+v, %v, not %+v", b, l, ok, want)
	}
}

// isShut looks that bytes are none's.
func isShut(t *testing.T, b []byte) {
	t.Helper()
	if l, ok := pack.Open(b); ok || l != nil {
		t.Errorf("Open(%x) = %+v, %v", b, l, ok)
	}
}

// Bodies needn't be filled up, and needn't be such as Fill would tell in one go.
func TestOpenOfEachSize(t *testing.T) {
	for _, size := range sizes() {
		c, _ := ofSize(size)
		isOpen(t, row(t, c), c)
		isOpen(t, row(t, c, mark(1)), c, mark(1))
		isOpen(t, row(t, mark(1), c), mark(1), c)
	}
	isOpen(t, row(t, fork(1), fork(2)), fork(1), fork(2))
}

func TestOpenUpToTheEdge(t *testing.T) {
	l := []api.Cell{full(1), full(2), drop(3)}
	b := row(t, l...)
	if len(b) != 103 {
		t.Fatal(len(b))
	}
	isOpen(t, b, l...)
	l = []api.Cell{full(1), full(2)}
	isOpen(t, row(t, l...), l...)
	l = slices.Repeat([]api.Cell{mark(4)}, 14)
	isOpen(t, row(t, l...), l...)
}

// Whole cells' bytes that are more than 103 are no body.
func TestOpenBeyondTheEdge(t *testing.T) {
	isShut(t, row(t, full(1), delta(34), delta(24)))
	isShut(t, row(t, full(1), full(2), same(3)))
	isShut(t, row(t, full(1), full(2), drop(3), mark(4)))
	isShut(t, row(t, slices.Repeat([]api.Cell{mark(4)}, 15)...))
	isShut(t, row(t, slices.Repeat([]api.Cell{mark(4)}, 10000)...))
	isShut(t, append(row(t, full(1), full(2), drop(3)), 0))
	for _, size := range []int{104, 128, 206, 359, 1 << 20} {
		isShut(t, make([]byte, size))
	}
}

// A row is cut at each place: between cells it is a body, else not.
func TestOpenOfWhatIsCut(t *testing.T) {
	l := []api.Cell{mark(1), full(2), drop(3), delta(16), lift(5), same(6)}
	b := row(t, l...)
	ends := map[int]int{}
	for n := range len(l) + 1 {
		ends[len(row(t, l[:n]...))] = n
	}
	for size := range len(b) + 1 {
		if n, ok := ends[size]; ok {
			isOpen(t, b[:size], l[:n]...)
		} else {
			isShut(t, b[:size])
		}
	}
	for from := 1; from < len(b); from++ {
		want, size, ok := plainOpen(b[from:])
		got, open := pack.Open(b[from:])
		if ok != open || ok && (!alike(got, want) || size == 0) {
			t.Errorf("from %d on: %+v, %v, not %+v, %v", from, got, open, want, ok)
		}
	}
}

func TestOpenOfWhatHasMore(t *testing.T) {
	b := row(t, full(1), mark(2))
	for x := range 256 {
		isShut(t, append(slices.Clone(b), byte(x)))
	}
	isShut(t, append(slices.Clone(b), make([]byte, 30)...))
	isShut(t, append(make([]byte, 1), b...))
}

// A cell that may not be spoils the row, wherever it stands.
func TestOpenOfWhatMayNotBe(t *testing.T) {
	bad, err := hex.DecodeString("08000000000009")
	if err != nil {
		t.Fatal(err)
	}
	good := row(t, mark(1))
	isShut(t, bad)
	isShut(t, slices.Concat(bad, good))
	isShut(t, slices.Concat(good, bad))
	isShut(t, slices.Concat(good, bad, good))
	for kind := range 256 {
		if kind >= 1 && kind <= 8 {
			continue
		}
		isShut(t, slices.Concat(good, []byte{byte(kind)}, good[1:]))
		isShut(t, []byte{byte(kind)})
	}
}

// plainOpen takes cells of the end of what was taken till then, told by whether their own bytes are there.
func plainOpen(b []byte) (l []api.Cell, size int, ok bool) {
	if len(b) > 103 {
		return nil, 0, false
	}
	for size < len(b) {
		c, _, e := cell.Decode(b[size:])
		if e != api.OK {
			return nil, 0, false
		}
		own, _ := cell.Encode(c)
		if !bytes.HasPrefix(b[size:], own) {
			return nil, 0, false
		}
		l, size = append(l, c), size+len(own)
	}
	return l, size, true
}

// Each byte of a body is changed to each other one: what is open then has just these bytes.
func TestOpenOfEachByteChanged(t *testing.T) {
	b := row(t, full(1), delta(17), mark(2), hold(3), lift(4))
	if len(b) > 103 {
		t.Fatal(len(b))
	}
	for i := range b {
		for x := range 256 {
			other := slices.Clone(b)
			other[i] = byte(x)
			want, _, ok := plainOpen(other)
			l, open := pack.Open(other)
			if ok != open || !alike(l, want) || !ok && l != nil {
				t.Fatalf("byte %d is %d: %+v, %v, not %+v, %v", i, x, l, open, want, ok)
			}
			if open && !bytes.Equal(row(t, l...), other) {
				t.Fatalf("byte %d is %d: %+v aren't its cells", i, x, l)
			}
		}
	}
}

func TestOpenByChance(t *testing.T) {
	r := rand.New(rand.NewSource(132))
	counts := map[bool]int{}
	for range 20000 {
		b := make([]byte, r.Intn(40))
		for i := range b {
			b[i] = byte(r.Intn(10))
		}
		if len(b) > 6 && r.Intn(2) == 0 {
			b[0] = api.Mark
			b = append(b[:7], row(t, some(r), some(r))...)
		}
		want, _, ok := plainOpen(b)
		l, open := pack.Open(b)
		if ok != open || !alike(l, want) {
			t.Fatalf("Open(%x) = %+v, %v, not %+v, %v", b, l, open, want, ok)
		}
		counts[open]++
	}
	if counts[true] < 500 || counts[false] < 500 {
		t.Error(counts)
	}
}

// P13.3

func TestWorst(t *testing.T) {
	for _, c := range []struct{ cells, want int }{
		{0, 0}, {1, 1}, {2, 2}, {5, 5}, {103, 103}, {104, 104}, {65535, 65535}, {1 << 40, 1 << 40}, {math.MaxInt, math.MaxInt},
		{-1, 0}, {-2, 0}, {-103, 0}, {math.MinInt32, 0}, {math.MinInt, 0},
	} {
		if n := pack.Worst(c.cells); n != c.want {
			t.Errorf("Worst(%d) = %d, not %d", c.cells, n, c.want)
		}
	}
	for n := range 3000 {
		if w := pack.Worst(n); w != n {
			t.Errorf("Worst(%d) = %d", n, w)
		}
	}
}

// What comes first in a body wouldn't fit behind those of the body ahead.
func TestNoBodyIsBegunTooEarly(t *testing.T) {
	r := rand.New(rand.NewSource(133))
	for range 500 {
		var l []api.Cell
		for range 1 + r.Intn(40) {
			l = append(l, some(r))
		}
		bodies, in, _ := pack.Fill(l...)
		for i := 1; i < len(l); i++ {
			ahead := len(bodies[in[i-1]])
			if in[i] != in[i-1] && (in[i] != in[i-1]+1 || ahead+cell.Size(l[i]) <= 103) {
				t.Fatalf("cell %d of %+v is in %d behind one in %d of %d bytes", i, l, in[i], in[i-1], ahead)
			}
		}
	}
}

// What is told is the asker's own, and what is handed in stays as it is.

func TestFillTellsNewMemory(t *testing.T) {
	l := []api.Cell{full(1), full(2), mark(3), full(4), delta(20), drop(5)}
	before := fmt.Sprint(l)
	bodies, in, _ := pack.Fill(l...)
	want, at := plain(t, l)
	for _, c := range l {
		for i := range c.Body {
			c.Body[i] ^= 255
		}
	}
	if !equal(bodies, want) || !slices.Equal(in, at) {
		t.Error("the bodies change with the cells")
	}
	for _, c := range l {
		for i := range c.Body {
			c.Body[i] ^= 255
		}
	}
	for n := range bodies {
		other := bodies[1-n]
		was := slices.Clone(other)
		b := bodies[n][:cap(bodies[n])]
		for i := range b {
			b[i] ^= 255
		}
		if !bytes.Equal(other, was) {
			t.Error("two bodies have memory in common")
		}
		for i := range b {
			b[i] ^= 255
		}
	}
	for _, b := range bodies {
		clear(b[:cap(b)])
	}
	clear(in)
	if fmt.Sprint(l) != before {
		t.Error("the cells change with the bodies")
	}
	if again, _, _ := pack.Fill(l...); !equal(again, want) {
		t.Error("a second Fill tells others")
	}
}

func TestFillKeepsToTheListsLength(t *testing.T) {
	all := []api.Cell{full(1), mark(2), {Kind: 99}, full(3)}
	fills(t, all[:2])
	if all[2].Kind != 99 || !cell.Same(all[3], full(3)) {
		t.Error("what lies behind the list changed")
	}
	deep := text(40)
	c := full(1)
	c.Body = deep[:32]
	fills(t, []api.Cell{c, c, mark(1)})
	if !bytes.Equal(deep, text(40)) {
		t.Error("what lies behind a cell's body changed")
	}
}

func TestOpenTellsNewMemory(t *testing.T) {
	l := []api.Cell{full(1), delta(20), mark(2), delta(16)}
	b := row(t, l...)
	was := slices.Clone(b)
	got, _ := pack.Open(b)
	if !bytes.Equal(b, was) {
		t.Error("Open changes what it is handed")
	}
	clear(b)
	if !alike(got, l) {
		t.Error("the cells change with the body")
	}
	copy(b, was)
	got, _ = pack.Open(b)
	for _, c := range got {
		clear(c.Body[:cap(c.Body)])
	}
	if !bytes.Equal(b, was) {
		t.Error("the body changes with the cells")
	}
	got, _ = pack.Open(b)
	clear(got[0].Body[:cap(got[0].Body)])
	if !alike(got[1:], l[1:]) {
		t.Error("two cells have memory in common")
	}
	if again, ok := pack.Open(b); !ok || !alike(again, l) {
		t.Error("a second Open tells others")
	}
}

func TestOpenKeepsToTheRowsLength(t *testing.T) {
	b := row(t, mark(1), full(2), mark(3))
	was := slices.Clone(b)
	isOpen(t, b[:7], mark(1))
	isShut(t, b[:30])
	isOpen(t, b[:53], mark(1), full(2))
	if !bytes.Equal(b, was) {
		t.Error("what lies behind the row changed")
	}
	big := append(row(t, full(1), full(2), drop(3)), row(t, full(4))...)
	isOpen(t, big[:103], full(1), full(2), drop(3))
	isShut(t, big[:104])
}
