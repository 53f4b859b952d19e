package segment_test

import (
	"math"
	"math/rand"
	"slices"
	"testing"

	"erewhile/api"
	"erewhile/segment"
)

// spot is a slot of a segment.
type spot struct{ seg, slot int }

// none stands for the first two sectors, in which no slot lies.
var none = spot{math.MinInt, math.MinInt}

// plain writes down, sector by sector, which slot lies there.
func plain(s segment.Shape) []spot {
	l := []spot{none, none}
	for seg := range s.Segs {
		for slot := range s.Size {
			l = append(l, spot{seg, slot})
		}
	}
	return l
}

// shapes are all shapes that may be.
func shapes() (l []segment.Shape) {
	for segs := 3; segs <= 64; segs++ {
		for size := 1; size <= 32; size++ {
			l = append(l, segment.Shape{Segs: segs, Size: size})
		}
	}
	return l
}

// far are numbers beyond any shape, some of which are like one within in their last bits, or become one if something is added or multiplied.
func far() []int {
	return []int{
		-1, -2, -3, -4, -32, -64, -65, -2048, -2050, math.MinInt32, -1 << 32, -1<<32 + 4, math.MinInt, math.MinInt + 1, math.MinInt + 2, math.MinInt + 3,
		2050, 2051, 4095, 4096, 65536, math.MaxInt32, 1 << 32, 1<<32 + 3, 1<<32 + 5, 1 << 61, 1 << 62, 1<<62 + 1, 1<<63/3 + 1, math.MaxInt - 2, math.MaxInt - 1, math.MaxInt,
	}
}

// wrong are shapes that may not be: one of the two is, or both are, just or far beyond what they may be.
func wrong() []segment.Shape {
	l := []segment.Shape{{}, {Segs: 2, Size: 33}, {Segs: 65, Size: 0}, {Segs: 2}, {Segs: 65, Size: 33}}
	segs := append([]int{0, 1, 2, 65, 66, 128, 256 + 4}, far()...)
	sizes := append([]int{0, 33, 34, 64, 256 + 3}, far()...)
	for _, n := range segs {
		for _, size := range []int{1, 3, 32} {
			l = append(l, segment.Shape{Segs: n, Size: size})
		}
	}
	for _, size := range sizes {
		for _, n := range []int{3, 4, 64} {
			l = append(l, segment.Shape{Segs: n, Size: size})
		}
	}
	for _, n := range segs {
		for _, size := range sizes {
			l = append(l, segment.Shape{Segs: n, Size: size})
		}
	}
	return l
}

// noSlot holds the answers of a slot that there isn't.
func noSlot(t *testing.T, s segment.Shape, seg, slot int) {
	t.Helper()
	if n, ok := s.Sector(seg, slot); n != 0 || ok {
		t.Errorf("%v: Sector(%d, %d) tells %d, %v", s, seg, slot, n, ok)
	}
}

// noSegment holds the answers of a sector that is in no segment.
func noSegment(t *testing.T, s segment.Shape, n int) {
	t.Helper()
	if seg, slot, ok := s.Of(n); seg != 0 || slot != 0 || ok {
		t.Errorf("%v: Of(%d) tells %d, %d, %v", s, n, seg, slot, ok)
	}
}

// P14.1

func TestCheckOfEachShapeThatMayBe(t *testing.T) {
	for _, s := range shapes() {
		if e := segment.Check(s); e != api.OK {
			t.Errorf("%v: %d", s, e)
		}
	}
}

func TestCheckOfShapesThatMayNotBe(t *testing.T) {
	for _, s := range wrong() {
		if e := segment.Check(s); e != api.ErrRange {
			t.Errorf("%v: %d", s, e)
		}
	}
}

func TestCheckAroundEachEdge(t *testing.T) {
	for segs := -3; segs <= 70; segs++ {
		for size := -3; size <= 40; size++ {
			want := api.ErrRange
			if segs > 2 && segs < 65 && size > 0 && size < 33 {
				want = api.OK
			}
			if e := segment.Check(segment.Shape{Segs: segs, Size: size}); e != want {
				t.Errorf("%d segments of %d: %d, not %d", segs, size, e, want)
			}
		}
	}
}

func TestShapesThatMayNotBeAnswerNothing(t *testing.T) {
	numbers := append([]int{0, 1, 2, 3, 4, 5, 7, 31, 32, 63, 64, 65}, far()...)
	for _, s := range wrong() {
		if s.Sectors() != 0 || s.Most() != 0 {
			t.Errorf("%v: %d sectors, at most %d", s, s.Sectors(), s.Most())
		}
		for _, n := range numbers {
			noSegment(t, s, n)
			noSlot(t, s, n, 0)
			noSlot(t, s, 0, n)
			noSlot(t, s, n, n)
			noSlot(t, s, 2, n)
			noSlot(t, s, s.Segs-1, s.Size-1)
		}
	}
}

// P14.2

func TestTheChaptersExample(t *testing.T) {
	s := segment.Shape{Segs: 4, Size: 3}
	if n := s.Sectors(); n != 14 {
		t.Errorf("%d sectors", n)
	}
	if n, ok := s.Sector(1, 2); n != 7 || !ok {
		t.Errorf("Sector(1, 2) tells %d, %v", n, ok)
	}
	if seg, slot, ok := s.Of(7); seg != 1 || slot != 2 || !ok {
		t.Errorf("Of(7) tells %d, %d, %v", seg, slot, ok)
	}
	if n := s.Most(); n != 6 {
		t.Errorf("at most %d", n)
	}
}

func TestShapesByHand(t *testing.T) {
	for _, x := range []struct {
		s             segment.Shape
		sectors, most int
		seg, slot, at int
	}{
		{segment.Shape{Segs: 3, Size: 1}, 5, 1, 2, 0, 4},
		{segment.Shape{Segs: 3, Size: 32}, 98, 32, 1, 31, 65},
		{segment.Shape{Segs: 64, Size: 1}, 66, 62, 63, 0, 65},
		{segment.Shape{Segs: 64, Size: 32}, 2050, 1984, 63, 31, 2049},
		{segment.Shape{Segs: 4, Size: 2}, 10, 4, 0, 0, 2},
		{segment.Shape{Segs: 10, Size: 7}, 72, 56, 5, 6, 43},
	} {
		if x.s.Sectors() != x.sectors || x.s.Most() != x.most {
			t.Errorf("%v: %d sectors, at most %d", x.s, x.s.Sectors(), x.s.Most())
		}
		if n, ok := x.s.Sector(x.seg, x.slot); n != x.at || !ok {
			t.Errorf("%v: Sector(%d, %d) tells %d, %v", x.s, x.seg, x.slot, n, ok)
		}
		if seg, slot, ok := x.s.Of(x.at); seg != x.seg || slot != x.slot || !ok {
			t.Errorf("%v: Of(%d) tells %d, %d, %v", x.s, x.at, seg, slot, ok)
		}
	}
}

func TestSectorsOfEachShape(t *testing.T) {
	for _, s := range shapes() {
		if n, want := s.Sectors(), len(plain(s)); n != want || n > api.MaxSectors {
			t.Errorf("%v: %d sectors, not %d", s, n, want)
		}
	}
}

func TestEachSlotOfEachShape(t *testing.T) {
	for _, s := range shapes() {
		for at, want := range plain(s) {
			if at < 2 {
				noSegment(t, s, at)
				continue
			}
			if seg, slot, ok := s.Of(at); seg != want.seg || slot != want.slot || !ok {
				t.Fatalf("%v: Of(%d) tells %d, %d, %v, not %v", s, at, seg, slot, ok, want)
			}
			if n, ok := s.Sector(want.seg, want.slot); n != at || !ok {
				t.Fatalf("%v: Sector of %v tells %d, %v, not %d", s, want, n, ok, at)
			}
		}
	}
}

func TestSlotsBeyondEachShape(t *testing.T) {
	for _, s := range shapes() {
		for _, n := range append([]int{s.Segs, s.Segs + 1}, far()...) {
			noSlot(t, s, n, 0)
			noSlot(t, s, n, s.Size-1)
			noSlot(t, s, n, n)
		}
		// The slot behind a segment's last one isn't the next segment's first one, nor the one ahead of its first one the last one's.
		for _, n := range append([]int{s.Size, s.Size + 1}, far()...) {
			noSlot(t, s, 0, n)
			noSlot(t, s, 1, n)
			noSlot(t, s, s.Segs-1, n)
		}
	}
}

func TestSectorsInNoSegment(t *testing.T) {
	for _, s := range shapes() {
		last := 1 + s.Segs*s.Size
		for _, n := range append([]int{0, 1, last + 1, last + 2, last + s.Size}, far()...) {
			noSegment(t, s, n)
		}
	}
}

func TestMostOfEachShape(t *testing.T) {
	for _, s := range shapes() {
		// All slots but those of the segments 0 and 1.
		want := len(slices.DeleteFunc(plain(s), func(x spot) bool { return x.seg < 2 }))
		if n := s.Most(); n != want {
			t.Errorf("%v: at most %d, not %d", s, n, want)
		}
	}
}

func TestByChance(t *testing.T) {
	r := rand.New(rand.NewSource(14))
	for range 30_000 {
		s := segment.Shape{Segs: r.Intn(70), Size: r.Intn(36)}
		seg, slot, at := r.Intn(72)-3, r.Intn(40)-3, r.Intn(2400)-10
		if s.Segs < 3 || s.Segs > 64 || s.Size < 1 || s.Size > 32 {
			noSlot(t, s, seg, slot)
			noSegment(t, s, at)
			continue
		}
		l := plain(s)
		want := slices.Index(l, spot{seg, slot})
		if n, ok := s.Sector(seg, slot); ok != (want >= 0) || n != max(want, 0) {
			t.Fatalf("%v: Sector(%d, %d) tells %d, %v", s, seg, slot, n, ok)
		}
		if at < 2 || at >= len(l) {
			noSegment(t, s, at)
		} else if x, y, ok := s.Of(at); !ok || (spot{x, y}) != l[at] {
			t.Fatalf("%v: Of(%d) tells %d, %d, %v", s, at, x, y, ok)
		}
	}
}

// A shape is a value: a copy of it is as good, and no call changes it.
func TestShapesAreValues(t *testing.T) {
	for _, s := range append(shapes(), wrong()...) {
		was, other := s, s
		segment.Check(s)
		s.Sectors()
		s.Sector(1, 0)
		s.Of(3)
		s.Most()
		other.Segs++
		if s != was || other == s {
			t.Fatalf("%v became %v", was, s)
		}
		if s.Sectors() != was.Sectors() || s.Most() != was.Most() {
			t.Fatalf("%v and its copy tell different things", s)
		}
	}
}

// The functions may be asked as values of their own, of a shape or of none.
func TestMethodsAsValues(t *testing.T) {
	s := segment.Shape{Segs: 5, Size: 4}
	sector, of := s.Sector, s.Of
	s = segment.Shape{}
	if n, ok := sector(4, 3); n != 21 || !ok {
		t.Errorf("%d, %v", n, ok)
	}
	if seg, slot, ok := of(21); seg != 4 || slot != 3 || !ok {
		t.Errorf("%d, %d, %v", seg, slot, ok)
	}
	if n := segment.Shape.Sectors(s); n != 0 {
		t.Errorf("%d", n)
	}
}
