package wire_test

import (
	"bytes"
	"math"
	"slices"
	"strconv"
	"testing"

	"erewhile/wire"
)

// within is a row that has other bytes behind its length in its memory.
func within(row, behind []byte) []byte {
	all := slices.Concat(row, behind)
	return all[:len(row)]
}

// behind is what within laid behind the row's length.
func behind(row []byte) []byte {
	return row[len(row):cap(row)]
}

// P1.1

func TestPutTellsNumbersHighestByteFirst(t *testing.T) {
	for _, c := range []struct {
		n    uint64
		size int
		want []byte
	}{
		{258, 3, []byte{0, 1, 2}},
		{258, 2, []byte{1, 2}},
		{0, 1, []byte{0}},
		{255, 1, []byte{255}},
		{0x0102030405060708, 8, []byte{1, 2, 3, 4, 5, 6, 7, 8}},
		{0xff00000000000001, 8, []byte{255, 0, 0, 0, 0, 0, 0, 1}},
		{math.MaxUint64, 8, bytes.Repeat([]byte{255}, 8)},
		{7, 8, []byte{0, 0, 0, 0, 0, 0, 0, 7}},
	} {
		if got := wire.Put(c.n, c.size); !bytes.Equal(got, c.want) {
			t.Errorf("Put(%d, %d) = %v, not %v", c.n, c.size, got, c.want)
		}
	}
}

func TestPutLosesWhatDoesNotFit(t *testing.T) {
	whole := []byte{1, 2, 3, 4, 5, 6, 7, 8}
	for size := 1; size <= 8; size++ {
		if got := wire.Put(0x0102030405060708, size); !bytes.Equal(got, whole[8-size:]) {
			t.Errorf("in %d bytes: %v, not %v", size, got, whole[8-size:])
		}
	}
}

func TestPutTellsNoneOfOtherSizes(t *testing.T) {
	for _, size := range []int{0, 9, 10, 64, 256 + 1, 1<<32 + 1, math.MaxInt, -1, -8, math.MinInt, math.MinInt + 1} {
		for _, n := range []uint64{0, 258, math.MaxUint64} {
			if got := wire.Put(n, size); len(got) != 0 {
				t.Fatalf("Put(%d, %d) has %d bytes, not none", n, size, len(got))
			}
		}
	}
}

func TestPutTellsNewMemory(t *testing.T) {
	first := wire.Put(258, 3)
	clear(first)
	if got := wire.Put(258, 3); !bytes.Equal(got, []byte{0, 1, 2}) {
		t.Errorf("behind a write over the first answer: %v", got)
	}
}

func TestGetTellsNumbers(t *testing.T) {
	for _, c := range []struct {
		b    []byte
		want uint64
	}{
		{[]byte{0}, 0},
		{[]byte{255}, 255},
		{[]byte{1, 0}, 256},
		{[]byte{0, 1, 2}, 258},
		{[]byte{0, 0, 0, 0, 0, 0, 0, 0}, 0},
		{[]byte{1, 2, 3, 4, 5, 6, 7, 8}, 0x0102030405060708},
		{[]byte{128, 0, 0, 0, 0, 0, 0, 0}, 1 << 63},
		{bytes.Repeat([]byte{255}, 8), math.MaxUint64},
	} {
		if got, ok := wire.Get(c.b); got != c.want || !ok {
			t.Errorf("Get(%v) = %d, %v, not %d", c.b, got, ok, c.want)
		}
	}
}

func TestGetRefusesOtherRows(t *testing.T) {
	for _, b := range [][]byte{nil, {}, make([]byte, 9), bytes.Repeat([]byte{255}, 9), append(make([]byte, 8), 5), bytes.Repeat([]byte{1}, 256+1), make([]byte, 1<<16+4)} {
		if got, ok := wire.Get(b); got != 0 || ok {
			t.Errorf("Get of %d bytes = %d, %v, not 0, false", len(b), got, ok)
		}
	}
}

func TestGetReadsNothingBehindTheLengthAndChangesNothing(t *testing.T) {
	row := within([]byte{1, 2}, []byte{3, 4})
	if got, ok := wire.Get(row); got != 258 || !ok {
		t.Errorf("%d, %v", got, ok)
	}
	if got, ok := wire.Get(row[:0]); got != 0 || ok {
		t.Errorf("of none: %d, %v", got, ok)
	}
	if !bytes.Equal(row[:cap(row)][:4], []byte{1, 2, 3, 4}) {
		t.Errorf("changed: %v", row[:cap(row)])
	}
}

func TestNumbersThatFitAreToldAgain(t *testing.T) {
	for size := 1; size <= 8; size++ {
		most := uint64(math.MaxUint64) >> (64 - 8*size)
		for _, n := range []uint64{0, 1, 127, 128, 255, most / 3, most/2 + 1, most - 1, most} {
			b := wire.Put(n, size)
			if got, ok := wire.Get(b); len(b) != size || got != n || !ok {
				t.Errorf("%d in %d bytes: %v, told as %d, %v", n, size, b, got, ok)
			}
		}
	}
}

// P1.2

func rows(parts ...string) [][]byte {
	var l [][]byte
	for _, p := range parts {
		l = append(l, []byte(p))
	}
	return l
}

func sameRows(a, b [][]byte) bool {
	return slices.EqualFunc(a, b, bytes.Equal)
}

func TestFrameLaysPartsBehindOneAnother(t *testing.T) {
	for _, c := range []struct {
		parts [][]byte
		want  []byte
	}{
		{nil, nil},
		{[][]byte{{7}, {}}, []byte{0, 1, 7, 0, 0}},
		{[][]byte{{7}, nil}, []byte{0, 1, 7, 0, 0}},
		{[][]byte{nil}, []byte{0, 0}},
		{[][]byte{nil, nil, nil}, make([]byte, 6)},
		{rows("ab", "", "c"), []byte{0, 2, 'a', 'b', 0, 0, 0, 1, 'c'}},
		{[][]byte{make([]byte, 256)}, append([]byte{1, 0}, make([]byte, 256)...)},
	} {
		got, ok := wire.Frame(c.parts...)
		if !ok || !bytes.Equal(got, c.want) {
			t.Errorf("Frame(%v) = %v, %v", c.parts, got, ok)
		}
		if l, ok := wire.Parts(got); !ok || !sameRows(l, c.parts) {
			t.Errorf("Parts(%v) = %v, %v", got, l, ok)
		}
	}
}

func TestFrameOfNoPartsIsNoBytes(t *testing.T) {
	if b, ok := wire.Frame(); len(b) != 0 || !ok {
		t.Errorf("Frame() = %v, %v", b, ok)
	}
	for _, b := range [][]byte{nil, {}} {
		if l, ok := wire.Parts(b); len(l) != 0 || !ok {
			t.Errorf("Parts(%v) = %v, %v", b, l, ok)
		}
	}
}

func TestFrameTakesTheLongestPart(t *testing.T) {
	long := bytes.Repeat([]byte("0123456789abcdef!"), 3855) // 65,535
	b, ok := wire.Frame([]byte{9}, long, nil, long)
	want := slices.Concat([]byte{0, 1, 9, 255, 255}, long, []byte{0, 0, 255, 255}, long)
	if !ok || !bytes.Equal(b, want) {
		t.Fatalf("%d bytes, %v", len(b), ok)
	}
	l, ok := wire.Parts(b)
	if !ok || !sameRows(l, [][]byte{{9}, long, nil, long}) {
		t.Errorf("%d parts, %v", len(l), ok)
	}
}

func TestFrameRefusesPartsThatAreTooLong(t *testing.T) {
	long := make([]byte, 65536)
	for i, parts := range [][][]byte{
		{long},
		{long, {1}},
		{{1}, long},
		{{1}, nil, long, {2}},
		{long[:65535], long},
		{make([]byte, 65537)},
		{make([]byte, 2*65536+3)},
	} {
		if b, ok := wire.Frame(parts...); len(b) != 0 || ok {
			t.Errorf("%d: %d bytes, %v", i, len(b), ok)
		}
	}
}

func TestPartsRefusesFramesThatAreCutShort(t *testing.T) {
	frame := []byte{0, 2, 'a', 'b', 0, 0, 0, 1, 'c'}
	whole := map[int]int{0: 0, 4: 1, 6: 2, 9: 3} // how many parts end there
	for cut := 0; cut <= len(frame); cut++ {
		l, ok := wire.Parts(frame[:cut]) // the rest stands behind its length
		many, want := whole[cut]
		if ok != want || len(l) != many {
			t.Errorf("cut at %d: %v, %v", cut, l, ok)
		}
	}
}

func TestPartsRefusesWhatIsNoFrame(t *testing.T) {
	for _, b := range [][]byte{
		{0},
		{255},
		{0, 1},
		{1, 0},
		{0, 2, 5},
		{0, 0, 0},
		{0, 1, 7, 0},
		{0, 1, 7, 0, 3, 1, 2},
		{1, 0, 7},
		append([]byte{255, 255}, make([]byte, 65534)...),
		append([]byte{255, 255}, make([]byte, 65536)...),
		append([]byte{1, 0}, make([]byte, 255)...),
	} {
		if l, ok := wire.Parts(b); len(l) != 0 || ok {
			t.Errorf("Parts of %d bytes = %v, %v", len(b), l, ok)
		}
	}
}

// eachRow tells all rows of up to most bytes, each below few.
func eachRow(most int, few byte, tell func([]byte)) {
	var grow func(row []byte)
	grow = func(row []byte) {
		tell(slices.Clone(row))
		if len(row) == most {
			return
		}
		for c := range few {
			grow(append(row, c))
		}
	}
	grow(nil)
}

// isFrame goes through a row by its numbers alone.
func isFrame(b []byte) bool {
	at := 0
	for at+1 < len(b) {
		at += 2 + int(b[at])*256 + int(b[at+1])
	}
	return at == len(b)
}

func TestEachShortRowIsAFrameOrNone(t *testing.T) {
	frames := 0
	eachRow(7, 4, func(b []byte) {
		l, ok := wire.Parts(b)
		if ok != isFrame(b) || !ok && len(l) != 0 {
			t.Fatalf("Parts(%v) = %v, %v", b, l, ok)
		}
		if !ok {
			return
		}
		frames++
		if again, ok := wire.Frame(l...); !ok || !bytes.Equal(again, b) {
			t.Fatalf("Frame(Parts(%v) ..) = %v, %v", b, again, ok)
		}
	})
	if frames < 100 {
		t.Errorf("%d frames alone were looked at", frames)
	}
}

func TestPartsTakesManyParts(t *testing.T) {
	many := slices.Repeat([][]byte{nil, {5}}, 1<<16)
	b, ok := wire.Frame(many...)
	if !ok || len(b) != 5<<16 {
		t.Fatalf("%d bytes, %v", len(b), ok)
	}
	if l, ok := wire.Parts(b); !ok || !sameRows(l, many) {
		t.Errorf("%d parts, %v", len(l), ok)
	}
}

func TestFrameTellsNewMemory(t *testing.T) {
	parts := [][]byte{within([]byte("ab"), []byte("xy")), within(nil, []byte("z")), []byte("c")}
	first, _ := wire.Frame(parts...)
	want := []byte{0, 2, 'a', 'b', 0, 0, 0, 1, 'c'}
	if !bytes.Equal(first, want) {
		t.Fatalf("%v", first)
	}
	clear(first[:cap(first)])
	if !sameRows(parts, rows("ab", "", "c")) || string(behind(parts[0])[:2]) != "xy" || string(behind(parts[1])[:1]) != "z" {
		t.Errorf("the parts changed with the frame: %q", parts)
	}
	second, _ := wire.Frame(parts...)
	parts[0][0] = 'q'
	if !bytes.Equal(second, want) {
		t.Errorf("the frame changed with a part: %v", second)
	}
}

func TestPartsTellsNewMemory(t *testing.T) {
	frame := []byte{0, 2, 'a', 'b', 0, 0, 0, 1, 'c'}
	l, _ := wire.Parts(frame)
	for i := range l {
		for j := range l[i] {
			l[i][j] = '!'
		}
		_ = append(l[i], "over the next one"...)
		for j := i + 1; j < len(l); j++ {
			if string(l[j]) != []string{"ab", "", "c"}[j] {
				t.Errorf("part %d changed with part %d: %q", j, i, l[j])
			}
		}
	}
	if !bytes.Equal(frame, []byte{0, 2, 'a', 'b', 0, 0, 0, 1, 'c'}) {
		t.Errorf("the frame changed with its parts: %v", frame)
	}
	l, _ = wire.Parts(frame)
	clear(frame)
	if !sameRows(l, rows("ab", "", "c")) {
		t.Errorf("the parts changed with their frame: %q", l)
	}
}

// P1.3

func TestXorReachesAsFarAsTheShorterRow(t *testing.T) {
	for _, c := range []struct{ a, b, want []byte }{
		{[]byte{1, 2, 3}, []byte{3, 3}, []byte{2, 1}},
		{[]byte{3, 3}, []byte{1, 2, 3}, []byte{2, 1}},
		{[]byte{0x0f, 0xf0, 0xff}, []byte{0xff, 0xff, 0xff}, []byte{0xf0, 0x0f, 0}},
		{[]byte{5}, []byte{0}, []byte{5}},
		{[]byte{0x55, 0xaa}, []byte{0x55, 0xaa}, []byte{0, 0}},
		{nil, []byte{1}, nil},
		{[]byte{1}, nil, nil},
		{[]byte{}, []byte{1, 2}, nil},
		{nil, nil, nil},
	} {
		if got := wire.Xor(c.a, c.b); !bytes.Equal(got, c.want) {
			t.Errorf("Xor(%v, %v) = %v, not %v", c.a, c.b, got, c.want)
		}
	}
}

func TestXorOfAllPairsOfBytes(t *testing.T) {
	for x := range 256 {
		for y := range 256 {
			want := byte(0)
			for bit := byte(1); bit != 0; bit <<= 1 {
				if (byte(x)&bit == 0) != (byte(y)&bit == 0) {
					want |= bit
				}
			}
			if got := wire.Xor([]byte{byte(x)}, []byte{byte(y)}); len(got) != 1 || got[0] != want {
				t.Fatalf("%d xor %d = %v, not %d", x, y, got, want)
			}
		}
	}
}

func TestXorOfLongRows(t *testing.T) {
	long := make([]byte, 1<<18)
	for i := range long {
		long[i] = byte(i * 7)
	}
	key := bytes.Repeat([]byte{0x3c, 0xc3, 1}, 1<<16)
	got := wire.Xor(long, key)
	if len(got) != len(key) {
		t.Fatalf("%d bytes", len(got))
	}
	if again := wire.Xor(key, got); !bytes.Equal(again, long[:len(key)]) {
		t.Error("twice by the same isn't as it was")
	}
}

func TestXorTellsNewMemory(t *testing.T) {
	for _, n := range []int{1, 2, 3, 8, 9} {
		t.Run(strconv.Itoa(n), func(t *testing.T) {
			a, b := within(bytes.Repeat([]byte{6}, n), []byte{8, 8}), within([]byte{3, 3}, []byte{9})
			got := wire.Xor(a, b)
			if !bytes.Equal(got, bytes.Repeat([]byte{5}, min(n, 2))) {
				t.Errorf("%v", got)
			}
			clear(got[:cap(got)])
			if !bytes.Equal(a, bytes.Repeat([]byte{6}, n)) || !bytes.Equal(b, []byte{3, 3}) {
				t.Errorf("the rows changed: %v, %v", a, b)
			}
			if behind(a)[0] != 8 || behind(b)[0] != 9 {
				t.Error("what lies behind their lengths changed")
			}
		})
	}
}

func TestXorOfARowWithItself(t *testing.T) {
	row := []byte{1, 2, 3}
	if got := wire.Xor(row, row); !bytes.Equal(got, make([]byte, 3)) || !bytes.Equal(row, []byte{1, 2, 3}) {
		t.Errorf("%v, of %v", got, row)
	}
}
