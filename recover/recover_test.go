package recover_test

import (
	"bytes"
	"encoding/hex"
	"math"
	"math/rand"
	"slices"
	"strings"
	"testing"

	"erewhile/api"
	"erewhile/cell"
	"erewhile/cipher"
	"erewhile/device"
	"erewhile/log"
	"erewhile/mirror"
	"erewhile/pack"
	"erewhile/recover"
	"erewhile/sector"
	"erewhile/segment"
	"erewhile/super"
)

var ours = cipher.Real{}

// other sums otherwise than ours.
type other struct{ cipher.Real }

func (other) Sum(k api.Key, b []byte) api.Sum {
	s := ours.Sum(k, b)
	s[0] ^= 1
	return s
}

// every says so of every sector.
func every(int, api.Sector) bool { return true }

// small is the shape of most tests: the sectors 2, 3; 4, 5; 6, 7; 8, 9.
var small = segment.Shape{Segs: 4, Size: 2}

// Cells.

func mark(num uint64, min int) api.Cell { return api.Cell{Kind: api.Mark, Num: num, Min: min} }

func full(num uint64, min int, fill byte) api.Cell {
	return api.Cell{Kind: api.Full, Num: num, Min: min, Place: api.Place{Branch: 2, Vol: 1, Blk: 9}, Body: bytes.Repeat([]byte{fill}, 32)}
}

func delta(num uint64, min int, body string) api.Cell {
	return api.Cell{Kind: api.Delta, Num: num, Min: min, Place: api.Place{Vol: 3, Blk: 255}, Ref: num - 1, Body: []byte(body)}
}

// kinds are cells of all kinds, with falling numbers.
func kinds() []api.Cell {
	return []api.Cell{
		full(1208, 4, 'f'),
		{Kind: api.Same, Num: 1207, Min: 5, Place: api.Place{Branch: 15, Vol: 7, Blk: 200}, Ref: 1206},
		delta(1206, 6, "twenty bytes of this"),
		{Kind: api.Fork, Num: 1205, Min: 7, Place: api.Place{Branch: 3, Vol: 2}, Ref: 9},
		{Kind: api.Drop, Num: 1204, Min: 8, Place: api.Place{Branch: 3}},
		{Kind: api.Hold, Num: 1203, Min: 9, Ref: 77, From: 1, To: 2, Until: 1 << 30},
		{Kind: api.Lift, Num: 1202, Min: 10, Ref: 77},
		mark(1201, 11),
	}
}

// row is the cells' bytes, one behind the other.
func row(t *testing.T, l ...api.Cell) (b []byte) {
	t.Helper()
	for _, c := range l {
		more, e := cell.Encode(c)
		if e != api.OK {
			t.Fatalf("the test's own %+v isn't a cell", c)
		}
		b = append(b, more...)
	}
	return b
}

// at is a body of these cells that was found at a sector.
func at(t *testing.T, sector int, l ...api.Cell) log.Found {
	t.Helper()
	return log.Found{At: sector, Gen: 1, Body: row(t, l...)}
}

func one(sector int, c api.Cell) recover.Found { return recover.Found{At: sector, Cell: c} }

func alike(a, b []recover.Found) bool {
	return slices.EqualFunc(a, b, func(x, y recover.Found) bool {
		return x.At == y.At && cell.Same(x.Cell, y.Cell)
	})
}

// orders asks for the order of what was found.
func orders(t *testing.T, l []log.Found, want ...recover.Found) {
	t.Helper()
	if got := recover.Order(l); !alike(got, want) {
		t.Fatalf("Order(%v) = %+v, not %+v", l, got, want)
	}
}

// plain puts the cells one by one among those that it has, at their places.
func plain(l []log.Found) (told []recover.Found) {
	for _, f := range l {
		cells, ok := pack.Open(f.Body)
		if !ok {
			continue
		}
		for _, c := range cells {
			i := 0
			for i < len(told) && told[i].Cell.Num < c.Num {
				i++
			}
			if i < len(told) && told[i].Cell.Num == c.Num {
				told[i] = one(f.At, c)
			} else {
				told = slices.Insert(told, i, one(f.At, c))
			}
		}
	}
	return told
}

// P17.1

func TestOrderOfTheExample(t *testing.T) {
	b, err := hex.DecodeString(strings.ReplaceAll("08 0003 00000001 08 0005 00000002", " ", ""))
	if err != nil {
		t.Fatal(err)
	}
	behind, err := hex.DecodeString("080003" + "00000009")
	if err != nil {
		t.Fatal(err)
	}
	orders(t, []log.Found{{At: 2, Gen: 1, Body: b}, {At: 3, Gen: 1, Body: behind}}, one(3, mark(3, 9)), one(2, mark(5, 2)))
	orders(t, []log.Found{{At: 3, Gen: 1, Body: behind}, {At: 2, Gen: 1, Body: b}}, one(2, mark(3, 1)), one(2, mark(5, 2)))
}

func TestOrderOfNone(t *testing.T) {
	orders(t, nil)
	orders(t, []log.Found{})
	orders(t, []log.Found{{}})
	orders(t, []log.Found{{At: 2, Gen: 1}, {At: 3, Gen: 1, Body: []byte{}}})
}

func TestOrderRisesByTheNumbers(t *testing.T) {
	nums := []uint64{65535, 1, 256, 255, 32768, 2, 32767, 257, 65534, 4096}
	var l []log.Found
	var want []recover.Found
	for i, num := range nums {
		l = append(l, at(t, 40-i, mark(num, i)))
		want = append(want, one(40-i, mark(num, i)))
	}
	slices.SortFunc(want, func(a, b recover.Found) int { return int(a.Cell.Num) - int(b.Cell.Num) })
	orders(t, l, want...)
	slices.Reverse(l)
	orders(t, l, want...)
	orders(t, []log.Found{at(t, 7, mark(9, 0), mark(4, 1), mark(6, 2), mark(1, 3))},
		one(7, mark(1, 3)), one(7, mark(4, 1)), one(7, mark(6, 2)), one(7, mark(9, 0)))
}

// Neither the minutes, nor the sectors, nor the generations tell which one comes last.
func TestOrderTakesWhatComesLastInTheList(t *testing.T) {
	a, b, c := mark(3, 9), mark(3, 5), mark(3, 7)
	for _, gens := range [][3]uint64{{1, 1, 1}, {3, 2, 1}, {1, 3, 2}, {0, 0, 0}, {math.MaxUint64, 0, 1}} {
		for _, sectors := range [][3]int{{2, 3, 4}, {4, 3, 2}, {3, 4, 2}, {5, 5, 5}} {
			orders(t, []log.Found{
				{At: sectors[0], Gen: gens[0], Body: row(t, a)},
				{At: sectors[1], Gen: gens[1], Body: row(t, b)},
				{At: sectors[2], Gen: gens[2], Body: row(t, c)},
			}, one(sectors[2], c))
		}
	}
}

func TestOrderTakesWhatComesLastInABody(t *testing.T) {
	orders(t, []log.Found{at(t, 6, mark(3, 9), mark(3, 5))}, one(6, mark(3, 5)))
	orders(t, []log.Found{at(t, 6, mark(3, 1), mark(4, 1), mark(3, 2), mark(2, 1), mark(4, 2), mark(3, 3))},
		one(6, mark(2, 1)), one(6, mark(3, 3)), one(6, mark(4, 2)))
	// The last one of the body ahead doesn't outlast the first one of the body behind it.
	orders(t, []log.Found{at(t, 6, mark(3, 1), mark(3, 2)), at(t, 7, mark(3, 3), mark(4, 4)), at(t, 8, mark(5, 5))},
		one(7, mark(3, 3)), one(7, mark(4, 4)), one(8, mark(5, 5)))
}

// A cell takes the place of another one as a whole, whatever their kinds are.
func TestOrderOfAllKinds(t *testing.T) {
	var l []log.Found
	var want []recover.Found
	for i, c := range kinds() {
		l = append(l, at(t, 10+i, c))
		want = slices.Insert(want, 0, one(10+i, c))
	}
	orders(t, l, want...)
	for i, first := range kinds() {
		for j, last := range kinds() {
			first.Num, last.Num = 1250, 1250
			orders(t, []log.Found{at(t, 20+i, first), at(t, 40+j, last)}, one(40+j, last))
			orders(t, []log.Found{at(t, 30, first, last)}, one(30, last))
		}
	}
}

// Of a body that is none there are no cells, and those that were found elsewhere stay.
func TestOrderOfBodiesThatAreNone(t *testing.T) {
	whole := row(t, mark(3, 8), mark(4, 8))
	wrong := row(t, mark(3, 8))
	wrong[1], wrong[2] = 0, 0 // the number 0
	none := [][]byte{
		whole[:13],
		whole[:8],
		append(slices.Clone(whole), 0),
		append(slices.Clone(whole), 8),
		append(slices.Clone(whole), 9, 0, 3, 0, 0, 0, 0),
		append(slices.Clone(whole), wrong...),
		append(slices.Clone(wrong), whole...),
		slices.Concat(row(t, full(3, 8, 1), full(4, 8, 1)), row(t, mark(5, 8), mark(6, 8))), // 106 bytes
		slices.Repeat(row(t, mark(3, 8)), 15),                                               // 105 bytes
		make([]byte, 103),
		make([]byte, 1000),
	}
	for _, b := range none {
		bad := log.Found{At: 9, Gen: 5, Body: b}
		good := at(t, 2, mark(3, 1), mark(7, 1))
		orders(t, []log.Found{bad})
		orders(t, []log.Found{bad, bad})
		orders(t, []log.Found{good, bad}, one(2, mark(3, 1)), one(2, mark(7, 1)))
		orders(t, []log.Found{bad, good}, one(2, mark(3, 1)), one(2, mark(7, 1)))
		orders(t, []log.Found{good, bad, at(t, 3, mark(7, 2)), bad}, one(2, mark(3, 1)), one(3, mark(7, 2)))
	}
	orders(t, []log.Found{{At: 4, Body: slices.Repeat(row(t, mark(3, 8)), 14)}}, one(4, mark(3, 8))) // 98 bytes
	orders(t, []log.Found{at(t, 5, full(1, 2, 1), full(2, 2, 2), api.Cell{Kind: api.Drop, Num: 3, Place: api.Place{Branch: 1}})},
		one(5, full(1, 2, 1)), one(5, full(2, 2, 2)), one(5, api.Cell{Kind: api.Drop, Num: 3, Place: api.Place{Branch: 1}})) // 103 bytes
}

// The sector is told as it was found, whether there is one or not.
func TestOrderTellsAnySector(t *testing.T) {
	for _, sector := range []int{0, 1, 2, 4095, 4096, -1, math.MaxInt, math.MinInt} {
		orders(t, []log.Found{at(t, sector, mark(3, 1), mark(2, 1))}, one(sector, mark(2, 1)), one(sector, mark(3, 1)))
	}
}

func TestOrderTellsTheSameEachTime(t *testing.T) {
	var l []log.Found
	for i := range 40 {
		l = append(l, at(t, 50-i, mark(uint64(1+i*37%23), i), mark(uint64(1+i*11%29), 100+i)))
	}
	want := plain(l)
	for range 50 {
		orders(t, l, want...)
	}
}

func TestOrderOfAllNumbers(t *testing.T) {
	var l []log.Found
	for num := api.MaxNum; num >= 1; num-- {
		l = append(l, at(t, num%4096, mark(uint64(num), 1)))
	}
	for num := 3; num <= api.MaxNum; num += 3 {
		l = append(l, at(t, num%4096, mark(uint64(num), 2)))
	}
	got := recover.Order(l)
	if len(got) != api.MaxNum {
		t.Fatalf("%d cells", len(got))
	}
	for i, f := range got {
		num, min := i+1, 1
		if num%3 == 0 {
			min = 2
		}
		if f.At != num%4096 || !cell.Same(f.Cell, mark(uint64(num), min)) {
			t.Fatalf("of the number %d: %+v", num, f)
		}
	}
}

// Bodies lie one behind the other in the same memory.
func TestOrderReadsAndWritesNothingElse(t *testing.T) {
	b := slices.Concat(row(t, full(3, 1, 7)), row(t, mark(5, 2)), row(t, mark(3, 9)))
	before := slices.Clone(b)
	l := []log.Found{{At: 2, Body: b[:46]}, {At: 3, Body: b[46:53]}, {At: 4, Body: row(t, mark(5, 4))}}
	orders(t, l[:2], one(2, full(3, 1, 7)), one(3, mark(5, 2)))
	if !bytes.Equal(b, before) || l[0].At != 2 || len(l[0].Body) != 46 || l[1].At != 3 || len(l[1].Body) != 7 || l[2].At != 4 || len(l[2].Body) != 7 {
		t.Fatalf("%v", l)
	}
	orders(t, l, one(2, full(3, 1, 7)), one(4, mark(5, 4)))
}

func TestOrderTellsNewMemory(t *testing.T) {
	b := row(t, full(3, 1, 7), full(4, 1, 8))
	l := []log.Found{{At: 2, Body: b}, {At: 3, Body: row(t, full(5, 1, 9))}}
	before := slices.Clone(b)
	got := recover.Order(l)
	clear(got[0].Cell.Body)
	_ = append(got[0].Cell.Body, bytes.Repeat([]byte{1}, 200)...)
	if !alike(got[1:], []recover.Found{one(2, full(4, 1, 8)), one(3, full(5, 1, 9))}) || !bytes.Equal(b, before) {
		t.Fatalf("%+v", got)
	}
	_ = append(got[:1], one(9, mark(9, 9)))
	clear(got)
	orders(t, l, one(2, full(3, 1, 7)), one(2, full(4, 1, 8)), one(3, full(5, 1, 9)))
	got = recover.Order(l)
	clear(b)
	if !alike(got[:1], []recover.Found{one(2, full(3, 1, 7))}) {
		t.Fatalf("%+v", got)
	}
}

// some is a cell by chance, with one of few numbers.
func some(r *rand.Rand) api.Cell {
	num, min := uint64(2+r.Intn(20)), r.Intn(1000)
	switch r.Intn(5) {
	case 0:
		return full(num, min, byte(r.Intn(256)))
	case 1:
		return delta(num, min, "delta"[:1+r.Intn(5)])
	case 2:
		return api.Cell{Kind: api.Hold, Num: num, Min: min, Ref: 8, From: 1, To: 1, Until: r.Intn(50)}
	}
	return mark(num, min)
}

func TestOrderByChance(t *testing.T) {
	r := rand.New(rand.NewSource(17))
	for range 3000 {
		var l []log.Found
		for range r.Intn(12) {
			var cells []api.Cell
			for range r.Intn(5) {
				cells = append(cells, some(r))
			}
			b := row(t, cells...)
			if len(b) > 0 && r.Intn(4) == 0 {
				b[r.Intn(len(b))] ^= byte(1 + r.Intn(255))
			}
			if r.Intn(8) == 0 {
				b = b[:r.Intn(len(b)+1)]
			}
			l = append(l, log.Found{At: r.Intn(30), Gen: r.Uint64(), Body: b})
		}
		orders(t, l, plain(l)...)
	}
}

// P17.2

// set is two devices of one power.
type set struct {
	t *testing.T
	p *device.Power
	d [2]*device.Device
}

func made(t *testing.T) *set { return madeOf(t, small.Sectors(), small.Sectors()) }

func madeOf(t *testing.T, first, second int) *set {
	p := device.NewPower()
	return &set{t: t, p: p, d: [2]*device.Device{device.New(first, p), device.New(second, p)}}
}

// mirror is a new mirror of the devices.
func (x *set) mirror() *mirror.Mirror { return mirror.New(x.d[0], x.d[1], sector.Good(ours)) }

func (x *set) out(on bool) {
	x.d[0].Out(on)
	x.d[1].Out(on)
}

// lay seals a body on one device alone, and flushes it.
func (x *set) lay(i, at int, gen uint64, body []byte) {
	x.t.Helper()
	s, ok := sector.Pack(ours, at, gen, body)
	if !ok || x.d[i].Write(at, s) != api.OK || x.d[i].Flush() != api.OK {
		x.t.Fatalf("device %d takes nothing at %d", i, at)
	}
}

func (x *set) laySuper(i int, s super.Super) {
	x.t.Helper()
	x.lay(i, int(s.Version%2), s.Version, super.Encode(s))
}

func (x *set) new() *log.Log {
	x.t.Helper()
	l, e := log.New(x.mirror(), ours, small)
	if e != api.OK {
		x.t.Fatalf("New tells %v", e)
	}
	return l
}

func (x *set) write(s super.Super) {
	x.t.Helper()
	if e := super.Write(x.mirror(), ours, s); e != api.OK {
		x.t.Fatalf("Write(%v) = %v", s, e)
	}
}

// read asks what Read tells of a new mirror.
func (x *set) read(s super.Super, want ...recover.Found) *log.Log {
	x.t.Helper()
	got, l, found, e := recover.Read(x.mirror(), ours, small)
	if got != s || l == nil || !alike(found, want) || e != api.OK {
		x.t.Fatalf("Read = %v, %v, %+v, %v, not %v, %+v", got, l != nil, found, e, s, want)
	}
	return l
}

func noRead(t *testing.T, m *mirror.Mirror, c api.Cipher, s segment.Shape, want api.Errno) {
	t.Helper()
	if got, l, found, e := recover.Read(m, c, s); got != (super.Super{}) || l != nil || len(found) != 0 || e != want {
		t.Fatalf("Read = %v, %v, %+v, %v, not %v", got, l, found, e, want)
	}
}

// puts appends a body of these cells.
func puts(t *testing.T, l *log.Log, want int, cells ...api.Cell) {
	t.Helper()
	if at, e := l.Append(row(t, cells...)); at != want || e != api.OK {
		t.Fatalf("Append = %d, %v, not %d", at, e, want)
	}
}

func flush(t *testing.T, l *log.Log) {
	t.Helper()
	if e := l.Flush(); e != api.OK {
		t.Fatalf("Flush() = %v", e)
	}
}

func head(t *testing.T, l *log.Log, seg, slot, room int) {
	t.Helper()
	if a, b := l.Head(); a != seg || b != slot || l.Room() != room {
		t.Fatalf("Head() = %d, %d; Room() = %d", a, b, l.Room())
	}
}

var last = super.Super{Version: 7, Now: 99, Top: 640}

// filled is a set with a super, and a log of three bodies.
func filled(t *testing.T) *set {
	t.Helper()
	x := made(t)
	l := x.new()
	puts(t, l, 2, mark(3, 1), full(5, 1, 'a'))
	puts(t, l, 3, mark(9, 2))
	puts(t, l, 4, mark(3, 4), mark(1, 4))
	flush(t, l)
	x.write(last)
	return x
}

// there are the cells of a filled set.
func there() []recover.Found {
	return []recover.Found{one(4, mark(1, 4)), one(4, mark(3, 4)), one(2, full(5, 1, 'a')), one(3, mark(9, 2))}
}

func TestReadWhereNothingStands(t *testing.T) {
	x := made(t)
	l := x.read(super.Super{})
	head(t, l, -1, 0, 8)
	puts(t, l, 2, mark(1, 1))
	flush(t, l)
	x.read(super.Super{}, one(2, mark(1, 1)))
}

func TestReadWhereNoSuperStands(t *testing.T) {
	x := made(t)
	l := x.new()
	puts(t, l, 2, mark(4, 1), mark(2, 1))
	flush(t, l)
	head(t, x.read(super.Super{}, one(2, mark(2, 1)), one(2, mark(4, 1))), 0, 1, 7)
	// What stands there is none: each is rotten, at a place that isn't its own, or no super's bytes.
	x.write(last)
	for i := range x.d {
		x.d[i].Rot(1, 40, 1)
		x.lay(i, 0, last.Version, super.Encode(last))
	}
	x.read(super.Super{}, one(2, mark(2, 1)), one(2, mark(4, 1)))
}

func TestReadWhereASuperAloneStands(t *testing.T) {
	x := made(t)
	x.write(last)
	head(t, x.read(last), -1, 0, 8)
}

func TestReadTellsAll(t *testing.T) {
	x := filled(t)
	l := x.read(last, there()...)
	head(t, l, 1, 1, 5)
	for i, want := range []uint64{1, 2, 0, 0} {
		if got := l.Gen(i); got != want {
			t.Errorf("Gen(%d) = %d, not %d", i, got, want)
		}
	}
	for _, f := range there() {
		b, e := l.Read(f.At)
		cells, ok := pack.Open(b)
		if e != api.OK || !ok || !slices.ContainsFunc(cells, func(c api.Cell) bool { return cell.Same(c, f.Cell) }) {
			t.Errorf("Read(%d) = %x, %v", f.At, b, e)
		}
	}
	puts(t, l, 5, mark(3, 6))
	puts(t, l, 6, mark(9, 7))
	flush(t, l)
	x.read(last, one(4, mark(1, 4)), one(5, mark(3, 6)), one(2, full(5, 1, 'a')), one(6, mark(9, 7)))
}

func TestReadTellsTheNewestSuper(t *testing.T) {
	x := filled(t)
	next := super.Super{Version: 8, Now: 100, Top: 700}
	x.laySuper(1, next)
	x.read(next, there()...)
	x.laySuper(0, super.Super{Version: 5, Now: 5, Top: 5})
	x.read(next, there()...)
	x.d[1].Out(true)
	x.read(super.Super{Version: 5, Now: 5, Top: 5}, there()...)
	x.out(false)
	x.d[1].Rot(0, 3, 1)
	x.read(last, there()...)
}

// A super may be like a zero one, and is told as that.
func TestReadOfASuperOfNoughts(t *testing.T) {
	x := made(t)
	x.write(super.Super{})
	x.read(super.Super{})
}

func TestErrorsOfReadInTheirOrder(t *testing.T) {
	x := filled(t)
	wrong := segment.Shape{Segs: 2, Size: 2}
	large := segment.Shape{Segs: 5, Size: 2}
	for _, s := range []segment.Shape{small, wrong, large, {}} {
		noRead(t, nil, nil, s, api.ErrArg)
		noRead(t, nil, ours, s, api.ErrArg)
		noRead(t, x.mirror(), nil, s, api.ErrArg)
	}
	for _, s := range []segment.Shape{wrong, large, {}, {Segs: 65, Size: 1}, {Segs: 3, Size: 33}, {Segs: 4, Size: 0}, {Segs: math.MaxInt, Size: math.MaxInt}, {Segs: math.MinInt, Size: -1}} {
		noRead(t, x.mirror(), ours, s, api.ErrRange)
		noRead(t, made(t).mirror(), ours, s, api.ErrRange)
	}
	// Where neither device is there the super's ErrDown goes ahead of the shape's ErrRange.
	x.out(true)
	for _, s := range []segment.Shape{small, wrong, large} {
		noRead(t, x.mirror(), nil, s, api.ErrArg)
		noRead(t, x.mirror(), ours, s, api.ErrDown)
	}
	x.out(false)
	x.read(last, there()...)
}

func TestReadOfMirrorsOfFewPlaces(t *testing.T) {
	for _, y := range [][2]int{{0, 0}, {0, 10}, {1, 1}, {2, 10}, {9, 10}, {10, 9}, {-1, 10}} {
		x := madeOf(t, y[0], y[1])
		noRead(t, x.mirror(), ours, small, api.ErrRange)
		x.out(true)
		want := api.ErrDown
		if x.mirror().Len() == 0 { // its Read of the place 0 tells ErrRange
			want = api.ErrRange
		}
		noRead(t, x.mirror(), ours, small, want)
	}
	noRead(t, mirror.New(nil, nil, nil), ours, small, api.ErrRange)
}

func TestReadTellsWhatOpenTells(t *testing.T) {
	// Nothing is to be chosen: the flush of each device alone is left at which power may fail.
	for after := range 2 {
		x := filled(t)
		x.p.Fail(after)
		noRead(t, x.mirror(), ours, small, api.ErrDown)
		noRead(t, x.mirror(), ours, small, api.ErrDown)
		x.p.Restart()
		x.read(last, there()...)
	}
	x := filled(t)
	x.p.Fail(2)
	x.read(last, there()...)
	if !x.p.On() || x.d[0].Flush() != api.ErrDown {
		t.Error("Read was more than two flushes")
	}
}

func TestPowerFailsWithinRead(t *testing.T) {
	for after := range 9 {
		for kept := range 4 {
			x := filled(t)
			for at := 2; at < 5; at++ {
				x.d[at%2].Rot(at, 50, 1)
			}
			x.d[0].Tear(kept, 77)
			x.d[1].Tear(0, kept)
			x.p.Fail(after)
			if after < 5 { // three sectors are chosen, and two devices are flushed
				noRead(t, x.mirror(), ours, small, api.ErrDown)
			} else {
				x.read(last, there()...)
			}
			x.p.Restart()
			x.read(last, there()...)
		}
	}
}

func TestReadOfOneDevice(t *testing.T) {
	for i := range 2 {
		x := filled(t)
		x.d[i].Out(true)
		l := x.read(last, there()...)
		puts(t, l, 5, mark(9, 8))
		flush(t, l)
		x.d[i].Out(false)
		want := append(there()[:3], one(5, mark(9, 8)))
		x.read(last, want...)
		x.d[1-i].Out(true) // it was chosen for both
		x.read(last, want...)
	}
}

func TestReadByTheCipherThatItWasHanded(t *testing.T) {
	x := filled(t)
	m := mirror.New(x.d[0], x.d[1], every)
	got, l, found, e := recover.Read(m, other{}, small)
	if got != (super.Super{}) || l == nil || len(found) != 0 || e != api.OK {
		t.Fatalf("Read = %v, %v, %+v, %v", got, l != nil, found, e)
	}
	if _, e := l.Append(row(t, mark(2, 2))); e != api.OK || super.Write(m, other{}, last) != api.OK {
		t.Fatal(e)
	}
	got, _, found, e = recover.Read(m, other{}, small)
	if got != last || !alike(found, []recover.Found{one(2, mark(2, 2))}) || e != api.OK {
		t.Fatalf("Read = %v, %+v, %v", got, found, e)
	}
}

func TestReadByTheShapeThatItWasHanded(t *testing.T) {
	x := madeOf(t, 14, 12)
	s := segment.Shape{Segs: 3, Size: 3}
	l, e := log.New(x.mirror(), ours, s)
	if e != api.OK {
		t.Fatal(e)
	}
	for i := range 7 {
		puts(t, l, 2+i, mark(uint64(20-i), i))
	}
	flush(t, l)
	got, n, found, e := recover.Read(x.mirror(), ours, s)
	if got != (super.Super{}) || len(found) != 7 || found[0].At != 8 || found[6].At != 2 || e != api.OK {
		t.Fatalf("Read = %v, %+v, %v", got, found, e)
	}
	head(t, n, 2, 1, 2)
	// By another shape what was found beyond isn't there.
	_, n, found, e = recover.Read(x.mirror(), ours, segment.Shape{Segs: 3, Size: 1})
	if len(found) != 3 || found[0].At != 4 || e != api.OK {
		t.Fatalf("Read = %+v, %v", found, e)
	}
	head(t, n, 0, 1, 0)
}

// A segment that was freed, and used again: what has its elder generation still is found, ahead of all that is newer.
func TestReadOfASegmentThatWasUsedAgain(t *testing.T) {
	x := made(t)
	l := x.new()
	puts(t, l, 2, mark(1, 1))
	puts(t, l, 3, mark(2, 1), mark(3, 1), mark(8, 1))
	puts(t, l, 4, mark(3, 2))
	puts(t, l, 5, mark(4, 2))
	puts(t, l, 6, mark(5, 3))
	puts(t, l, 7, mark(6, 3))
	puts(t, l, 8, mark(7, 4))
	if e := l.Free(0); e != api.OK {
		t.Fatal(e)
	}
	flush(t, l)
	rest := []recover.Found{one(5, mark(4, 2)), one(6, mark(5, 3)), one(7, mark(6, 3)), one(8, mark(7, 4)), one(3, mark(8, 1))}
	x.read(super.Super{}, append([]recover.Found{one(2, mark(1, 1)), one(3, mark(2, 1)), one(4, mark(3, 2))}, rest...)...)
	puts(t, l, 9, mark(2, 5))
	puts(t, l, 2, mark(3, 6))
	flush(t, l)
	n := x.read(super.Super{}, append([]recover.Found{one(9, mark(2, 5)), one(2, mark(3, 6))}, rest...)...)
	head(t, n, 0, 1, 1)
}

// Bodies that are none's cells stand in the log, and count there.
func TestReadOfBodiesThatAreNone(t *testing.T) {
	x := filled(t)
	l := x.read(last, there()...)
	for i, b := range [][]byte{{1, 2, 3}, nil, append(row(t, mark(3, 9)), 0)} {
		if at, e := l.Append(b); at != 5+i || e != api.OK {
			t.Fatalf("Append = %d, %v", at, e)
		}
	}
	flush(t, l)
	head(t, x.read(last, there()...), 2, 2, 2)
}

func TestReadLeavesTheSupersAsTheyAre(t *testing.T) {
	x := filled(t)
	x.laySuper(1, super.Super{Version: 8, Now: 100, Top: 700})
	x.d[0].Rot(1, 90, 4)
	x.d[1].Rot(4, 90, 4)
	before := [2][]api.Sector{x.d[0].Dump(), x.d[1].Dump()}
	x.read(super.Super{Version: 8, Now: 100, Top: 700}, there()...)
	before[1][4] = before[0][4] // it was chosen
	for i := range x.d {
		if !slices.Equal(x.d[i].Dump(), before[i]) || x.d[i].Waiting() != 0 {
			t.Errorf("device %d has %v, not %v", i, x.d[i].Dump(), before[i])
		}
	}
}

func TestReadTellsNewMemory(t *testing.T) {
	x := filled(t)
	_, _, found, _ := recover.Read(x.mirror(), ours, small)
	l := x.read(last, there()...)
	clear(found[2].Cell.Body)
	clear(found)
	if b, e := l.Read(2); !bytes.Equal(b, row(t, mark(3, 1), full(5, 1, 'a'))) || e != api.OK {
		t.Fatalf("Read(2) = %x, %v", b, e)
	}
	x.read(last, there()...)
}

// scatter lays supers and bodies by chance on the devices, some of them spoilt, and takes one out now and then.
func scatter(r *rand.Rand, x *set) {
	for i := range x.d {
		for at := range x.d[i].Len() {
			gen := uint64(r.Intn(5))
			body := row(x.t, some(r), some(r))
			if at < 2 {
				gen = gen*2 + uint64(at)
				body = super.Encode(super.Super{Version: gen, Now: r.Intn(1000), Top: uint64(r.Intn(1000))})
			}
			if r.Intn(3) > 0 {
				x.lay(i, at, gen, body[:len(body)-r.Intn(6)/5])
			}
			if r.Intn(6) == 0 {
				x.d[i].Rot(at, r.Intn(api.SectorSize), byte(1+r.Intn(255)))
			}
		}
	}
	if k := r.Intn(10); k < 3 {
		x.d[k%2].Out(true)
		x.d[1].Out(k == 2 || k == 1)
	}
}

// twin has devices that are what these are.
func (x *set) twin() *set {
	y := madeOf(x.t, x.d[0].Len(), x.d[1].Len())
	for i, d := range x.d {
		for at, s := range d.Dump() {
			y.d[i].Write(at, s)
		}
		y.d[i].Flush()
		_, e := d.Read(0)
		y.d[i].Out(e == api.ErrDown)
	}
	return y
}

// What Read tells, and does, is what the layers below tell, and do, one by one.
func TestReadByChance(t *testing.T) {
	r := rand.New(rand.NewSource(171))
	for range 500 {
		x := madeOf(t, 10, 10+r.Intn(3))
		scatter(r, x)
		y := x.twin()
		m := y.mirror()
		s, e := super.Read(m, ours)
		if e == api.ErrDown {
			noRead(t, x.mirror(), ours, small, e)
			continue
		}
		l, found, e := log.Open(m, ours, small)
		if e != api.OK {
			t.Fatalf("Open tells %v", e)
		}
		got := x.read(s, plain(found)...)
		seg, slot := l.Head()
		head(t, got, seg, slot, l.Room())
		for seg := range small.Segs {
			if got.Gen(seg) != l.Gen(seg) {
				t.Fatalf("Gen(%d) = %d, not %d", seg, got.Gen(seg), l.Gen(seg))
			}
		}
		for i := range x.d {
			if !slices.Equal(x.d[i].Dump(), y.d[i].Dump()) {
				t.Fatalf("device %d has %v, not %v", i, x.d[i].Dump(), y.d[i].Dump())
			}
		}
	}
}

// P17.3

// Power fails at each operation of a log that is appended to, flushed, and written anew in.
func TestWhatWasFlushedIsThereBehindACrash(t *testing.T) {
	for after := range 14 {
		for kept := range 3 {
			x := filled(t)
			l := x.read(last, there()...)
			x.d[0].Tear(0, 100)
			x.d[1].Tear(kept, 3)
			x.p.Fail(after)
			want := there()
			for i, c := range []api.Cell{mark(9, 5), mark(5, 6), mark(9, 7)} {
				at, e := l.Append(row(t, c))
				if e == api.OK && at != 5+i {
					t.Fatalf("Append = %d", at)
				}
				if l.Flush() == api.OK {
					k := slices.IndexFunc(want, func(f recover.Found) bool { return f.Cell.Num == c.Num })
					want[k] = one(at, c)
				}
			}
			x.p.Restart()
			_, _, found, e := recover.Read(x.mirror(), ours, small)
			if e != api.OK || len(found) != 4 {
				t.Fatalf("Read tells %+v, %v", found, e)
			}
			for i, f := range found {
				// Behind what was flushed last there may be one that power cut short.
				if !alike(found[i:i+1], want[i:i+1]) && (f.Cell.Min < 5 || f.Cell.Min <= want[i].Cell.Min || f.At != f.Cell.Min) {
					t.Fatalf("power fails behind %d operations, kept %d: %+v, not %+v", after, kept, f, want[i])
				}
			}
		}
	}
}

// entry is a body that was appended, at its place in the order of all. Each of its cells has a minute of its own.
type entry struct {
	at      int // 0: power failed at it
	seg     int
	cells   []api.Cell
	flushed bool
	gone    bool // its segment was freed, and used again
	lost    bool // with power
}

// session is a log of cells whose one device keeps what it was told to, and the other one does what it likes.
type session struct {
	*set
	r     *rand.Rand
	l     *log.Log
	keeps int
	all   []entry
	min   int
}

func newSession(t *testing.T, r *rand.Rand) *session {
	x := &session{set: made(t), r: r, keeps: r.Intn(2)}
	x.l = x.new()
	return x
}

// comes tells the segment into which the next body goes, and whether that is used anew by it; false: there is no room.
func (x *session) comes() (seg int, anew, ok bool) {
	seg, slot := x.l.Head()
	if seg >= 0 && slot < small.Size {
		return seg, false, true
	}
	for seg := range small.Segs {
		if x.l.Gen(seg) == 0 {
			return seg, true, true
		}
	}
	return 0, false, false
}

// append appends a body of cells that are new, or written anew. One at which power fails may be found, too.
func (x *session) append() {
	x.t.Helper()
	var cells []api.Cell
	for range 1 + x.r.Intn(2) {
		c := some(x.r)
		x.min++
		c.Min = x.min
		cells = append(cells, c)
	}
	seg, anew, ok := x.comes()
	on := x.p.On()
	at, e := x.l.Append(row(x.t, cells...))
	if !ok || !on {
		if e == api.OK {
			x.t.Fatal("Append tells OK")
		}
		return
	}
	if e != api.OK && x.p.On() {
		x.t.Fatalf("Append tells %v", e)
	}
	for i := range x.all {
		if anew && x.all[i].seg == seg {
			x.all[i].gone = true
		}
	}
	x.all = append(x.all, entry{at: at, seg: seg, cells: cells})
}

func (x *session) flush() {
	if x.l.Flush() != api.OK {
		return
	}
	for i := range x.all {
		x.all[i].flushed = !x.all[i].lost
	}
}

// whim lets the other device lie, rot, or drop out.
func (x *session) whim() {
	d := x.d[1-x.keeps]
	switch x.r.Intn(5) {
	case 0:
		d.Lie(x.r.Intn(2) == 0)
	case 1:
		d.Rot(x.r.Intn(d.Len()), x.r.Intn(api.SectorSize), byte(1+x.r.Intn(255)))
	default:
		d.Out(x.r.Intn(2) == 0)
	}
}

// crash lets power fail somewhere in what is appended and flushed next.
func (x *session) crash() {
	x.t.Helper()
	for _, d := range x.d {
		d.Tear(x.r.Intn(5), x.r.Intn(api.SectorSize+1))
	}
	x.p.Fail(x.r.Intn(8))
	for range 4 {
		x.append()
		if x.r.Intn(2) == 0 {
			x.flush()
		}
	}
	for x.p.On() {
		x.flush()
	}
	x.p.Restart()
	x.look()
}

// where tells the body in which the cell stands, and its place there.
func (x *session) where(c api.Cell) (body, place int) {
	x.t.Helper()
	for i, y := range x.all {
		if k := slices.IndexFunc(y.cells, func(z api.Cell) bool { return cell.Same(c, z) }); k >= 0 {
			return i, k
		}
	}
	x.t.Fatalf("found what wasn't appended: %+v", c)
	return 0, 0
}

// look reads what is there, and asks of each number whether that is what was written last, and flushed, or what came behind it.
func (x *session) look() {
	x.t.Helper()
	_, l, found, e := recover.Read(x.mirror(), ours, small)
	if l == nil || e != api.OK {
		x.t.Fatalf("Read tells %v", e)
	}
	told := map[uint64]int{}
	for i, f := range found {
		if i > 0 && found[i-1].Cell.Num >= f.Cell.Num {
			x.t.Fatalf("not in order: %+v", found)
		}
		b, place := x.where(f.Cell)
		y := x.all[b]
		if y.lost || y.at != 0 && y.at != f.At || y.seg != (f.At-2)/small.Size {
			x.t.Fatalf("%+v was appended as %+v", f, y)
		}
		if slices.ContainsFunc(y.cells[place+1:], func(c api.Cell) bool { return c.Num == f.Cell.Num }) {
			x.t.Fatalf("%+v isn't the last one of its number in its body", f)
		}
		told[f.Cell.Num] = b
	}
	for i, y := range x.all {
		for _, c := range y.cells {
			if b, ok := told[c.Num]; y.flushed && !y.gone && (!ok || b < i) {
				x.t.Fatalf("%+v isn't there, nor what was written behind it", c)
			}
		}
	}
	x.l = l
	x.settle()
}

// settle notes what is found from now on: that was flushed, and what isn't found was lost.
func (x *session) settle() {
	x.t.Helper()
	_, bodies, e := log.Open(x.mirror(), ours, small)
	if e != api.OK {
		x.t.Fatalf("Open tells %v", e)
	}
	stands := map[int]bool{}
	for _, f := range bodies {
		cells, _ := pack.Open(f.Body)
		i, _ := x.where(cells[0])
		stands[i] = true
	}
	for i := range x.all {
		y := &x.all[i]
		y.flushed, y.lost = stands[i], !stands[i] && !y.gone
	}
}

func TestWhatWasFlushedIsThereByChance(t *testing.T) {
	r := rand.New(rand.NewSource(173))
	for range 300 {
		x := newSession(t, r)
		for range 60 {
			switch r.Intn(10) {
			case 0, 1, 2, 3:
				x.append()
			case 4, 5:
				x.flush()
			case 6, 7:
				x.l.Free(r.Intn(small.Segs))
			case 8:
				x.whim()
			case 9:
				x.crash()
			}
		}
		x.flush()
		x.look()
	}
}
