package cell_test

import (
	"bytes"
	"encoding/hex"
	"math"
	"math/rand"
	"slices"
	"strings"
	"testing"

	"erewhile/api"
	"erewhile/cell"
)

// text is a row of bytes of which hardly two pieces are alike.
func text(size int) []byte {
	b := make([]byte, size)
	for i := range b {
		b[i] = byte(i*i>>3 + 5*i + i>>8 + 1)
	}
	return b
}

// span is a least and a greatest number.
type span struct{ least, most int }

func (s span) has(n int) bool { return s.least <= n && n <= s.most }

// spans are those of a kind's fields; a span of noughts is that of a field that must be zero.
type spans struct {
	branch, vol, blk, ref, from, to, until, body span
}

const (
	num    = 65535
	minute = 1 << 30
)

// plainSpans is the chapter's table; a Ref that is to be an elder number is looked at besides.
func plainSpans(kind int) (s spans, ok bool) {
	there := spans{branch: span{0, 15}, vol: span{0, 7}, blk: span{0, 255}}
	switch kind {
	case 1:
		s = there
		s.ref, s.body = span{0, 1}, span{32, 32}
	case 2:
		s = there
		s.ref = span{1, num}
	case 3:
		s = there
		s.ref, s.body = span{1, num}, span{1, 20}
	case 4:
		s = spans{branch: span{1, 15}, vol: span{0, 15}, ref: span{1, num}}
	case 5:
		s = spans{branch: span{1, 15}}
	case 6:
		m := span{0, minute}
		s = spans{ref: span{1, num}, from: m, to: m, until: m}
	case 7:
		s = spans{ref: span{1, num}}
	case 8:
	default:
		return s, false
	}
	return s, true
}

// may tells whether a cell may be.
func may(c api.Cell) bool {
	s, ok := plainSpans(c.Kind)
	if !ok || c.Num < 1 || c.Num > num || c.Min < 0 || c.Min > minute || c.Ref > num {
		return false
	}
	if !s.branch.has(c.Place.Branch) || !s.vol.has(c.Place.Vol) || !s.blk.has(c.Place.Blk) {
		return false
	}
	if !s.ref.has(int(c.Ref)) || !s.from.has(c.From) || !s.to.has(c.To) || !s.until.has(c.Until) || !s.body.has(len(c.Body)) {
		return false
	}
	if (c.Kind == 2 || c.Kind == 3 || c.Kind == 4) && c.Ref >= c.Num {
		return false
	}
	if c.Kind == 4 && c.Place.Branch == c.Place.Vol {
		return false
	}
	return c.Kind != 6 || c.From <= c.To
}

// high writes a number in so many bytes, the greatest first.
func high(n, size int) (b []byte) {
	for ; size > 0; size-- {
		b = append([]byte{byte(n % 256)}, b...)
		n /= 256
	}
	return b
}

// plain writes a cell's bytes down, whether it may be or not, if there is its kind.
func plain(c api.Cell) []byte {
	b := slices.Concat([]byte{byte(c.Kind)}, high(int(c.Num), 2), high(c.Min, 4))
	place := slices.Concat(high(c.Place.Branch, 1), high(c.Place.Vol, 1), high(c.Place.Blk, 2))
	ref := high(int(c.Ref), 2)
	body := append([]byte{byte(len(c.Body))}, c.Body...)
	switch c.Kind {
	case 1, 3:
		return slices.Concat(b, place, ref, body)
	case 2, 4:
		return slices.Concat(b, place, ref)
	case 5:
		return slices.Concat(b, place)
	case 6:
		return slices.Concat(b, ref, high(c.From, 4), high(c.To, 4), high(c.Until, 4))
	case 7:
		return slices.Concat(b, ref)
	}
	return b
}

// low reads a number of which the greatest byte is the first.
func low(b []byte) (n int) {
	for _, x := range b {
		n = 256*n + int(x)
	}
	return n
}

// plainCell reads a cell byte by byte, and tells how many they were, or the error that the chapter names.
func plainCell(b []byte) (c api.Cell, size int, e api.Errno) {
	if len(b) == 0 {
		return c, 0, api.ErrEnd
	}
	fixed := map[byte]int{1: 14, 2: 13, 3: 14, 4: 13, 5: 11, 6: 21, 7: 9, 8: 7}[b[0]]
	if fixed == 0 {
		return c, 0, api.ErrForm
	}
	if len(b) < fixed || fixed == 14 && len(b) < 14+int(b[13]) {
		return c, 0, api.ErrEnd
	}
	c.Kind, c.Num, c.Min = int(b[0]), uint64(low(b[1:3])), low(b[3:7])
	if c.Kind <= 5 {
		c.Place = api.Place{Branch: low(b[7:8]), Vol: low(b[8:9]), Blk: low(b[9:11])}
	}
	switch c.Kind {
	case 1, 3:
		fixed += int(b[13])
		c.Ref, c.Body = uint64(low(b[11:13])), slices.Clone(b[14:fixed])
	case 2, 4:
		c.Ref = uint64(low(b[11:13]))
	case 6:
		c.Ref, c.From, c.To, c.Until = uint64(low(b[7:9])), low(b[9:13]), low(b[13:17]), low(b[17:21])
	case 7:
		c.Ref = uint64(low(b[7:9]))
	}
	if !may(c) {
		return api.Cell{}, 0, api.ErrForm
	}
	return c, fixed, api.OK
}

// same is plain, too: field by field.
func same(a, b api.Cell) bool {
	return a.Kind == b.Kind && a.Num == b.Num && a.Min == b.Min && a.Place.Branch == b.Place.Branch && a.Place.Vol == b.Place.Vol && a.Place.Blk == b.Place.Blk && a.Ref == b.Ref && a.From == b.From && a.To == b.To && a.Until == b.Until && string(a.Body) == string(b.Body)
}

// inner are a cell of each kind; no field that a kind has is at an edge, or like another one.
func inner() []api.Cell {
	return []api.Cell{
		{Kind: api.Full, Num: 0x1234, Min: 0x01020304, Place: api.Place{Branch: 5, Vol: 6, Blk: 77}, Ref: 1, Body: text(32)},
		{Kind: api.Same, Num: 0x1234, Min: 0x01020304, Place: api.Place{Branch: 5, Vol: 6, Blk: 77}, Ref: 0x0908},
		{Kind: api.Delta, Num: 0x1234, Min: 0x01020304, Place: api.Place{Branch: 5, Vol: 6, Blk: 77}, Ref: 0x0908, Body: text(9)},
		{Kind: api.Fork, Num: 0x1234, Min: 0x01020304, Place: api.Place{Branch: 5, Vol: 6}, Ref: 0x0908},
		{Kind: api.Drop, Num: 0x1234, Min: 0x01020304, Place: api.Place{Branch: 5}},
		{Kind: api.Hold, Num: 0x1234, Min: 0x01020304, Ref: 0xfedc, From: 0x11121314, To: 0x21222324, Until: 0x05060708},
		{Kind: api.Lift, Num: 0x1234, Min: 0x01020304, Ref: 0xfedc},
		{Kind: api.Mark, Num: 0x1234, Min: 0x01020304},
	}
}

// ends are cells whose fields are the least and the greatest ones.
func ends() []api.Cell {
	far := api.Place{Branch: 15, Vol: 7, Blk: 255}
	return []api.Cell{
		{Kind: api.Full, Num: 1, Body: make([]byte, 32)},
		{Kind: api.Full, Num: num, Min: minute, Place: far, Ref: 1, Body: bytes.Repeat([]byte{255}, 32)},
		{Kind: api.Same, Num: 2, Ref: 1},
		{Kind: api.Same, Num: num, Min: minute, Place: far, Ref: num - 1},
		{Kind: api.Same, Num: num, Min: minute, Place: far, Ref: 1},
		{Kind: api.Delta, Num: 2, Ref: 1, Body: []byte{0}},
		{Kind: api.Delta, Num: num, Min: minute, Place: far, Ref: num - 1, Body: bytes.Repeat([]byte{255}, 20)},
		{Kind: api.Fork, Num: 2, Place: api.Place{Branch: 1}, Ref: 1},
		{Kind: api.Fork, Num: num, Min: minute, Place: api.Place{Branch: 15, Vol: 14}, Ref: num - 1},
		{Kind: api.Fork, Num: num, Min: minute, Place: api.Place{Branch: 1, Vol: 15}, Ref: 1},
		{Kind: api.Drop, Num: 1, Place: api.Place{Branch: 1}},
		{Kind: api.Drop, Num: num, Min: minute, Place: api.Place{Branch: 15}},
		{Kind: api.Hold, Num: 1, Ref: 1},
		{Kind: api.Hold, Num: num, Min: minute, Ref: num, From: minute, To: minute, Until: minute},
		{Kind: api.Hold, Num: 1, Ref: num, To: minute},
		{Kind: api.Hold, Num: num, Ref: 1, From: minute, To: minute},
		{Kind: api.Lift, Num: 1, Ref: 1},
		{Kind: api.Lift, Num: num, Min: minute, Ref: num},
		{Kind: api.Lift, Num: 5, Ref: 5},
		{Kind: api.Mark, Num: 1},
		{Kind: api.Mark, Num: num, Min: minute},
	}
}

func right() []api.Cell { return append(inner(), ends()...) }

// wrong are cells that may not be, for one reason each.
func wrong() []api.Cell {
	l := []api.Cell{
		{},
		{Kind: api.Full, Num: 1, Body: text(31)},
		{Kind: api.Full, Num: 1, Body: text(33)},
		{Kind: api.Full, Num: 1},
		{Kind: api.Full, Num: 9, Ref: 2, Body: text(32)},
		{Kind: api.Full, Num: 1, Place: api.Place{Branch: 16}, Body: text(32)},
		{Kind: api.Full, Num: 1, Place: api.Place{Vol: 8}, Body: text(32)},
		{Kind: api.Full, Num: 1, Place: api.Place{Blk: 256}, Body: text(32)},
		{Kind: api.Same, Num: 1},
		{Kind: api.Same, Num: 1, Ref: 1},
		{Kind: api.Same, Num: 2},
		{Kind: api.Same, Num: 2, Ref: 2},
		{Kind: api.Same, Num: 2, Ref: 3},
		{Kind: api.Same, Num: 2, Ref: 1, Body: []byte{1}},
		{Kind: api.Same, Num: 2, Ref: 1, Body: text(32)},
		{Kind: api.Delta, Num: 2, Body: []byte{1}},
		{Kind: api.Delta, Num: 2, Ref: 2, Body: []byte{1}},
		{Kind: api.Delta, Num: 2, Ref: 1},
		{Kind: api.Delta, Num: 2, Ref: 1, Body: text(21)},
		{Kind: api.Delta, Num: 2, Ref: 1, Body: text(32)},
		{Kind: api.Fork, Num: 2, Ref: 1},
		{Kind: api.Fork, Num: 2, Place: api.Place{Vol: 1}, Ref: 1},
		{Kind: api.Fork, Num: 2, Place: api.Place{Branch: 16}, Ref: 1},
		{Kind: api.Fork, Num: 2, Place: api.Place{Branch: 1, Vol: 16}, Ref: 1},
		{Kind: api.Fork, Num: 2, Place: api.Place{Branch: 1, Blk: 1}, Ref: 1},
		{Kind: api.Fork, Num: 2, Place: api.Place{Branch: 1}},
		{Kind: api.Fork, Num: 2, Place: api.Place{Branch: 1}, Ref: 2},
		{Kind: api.Drop, Num: 2},
		{Kind: api.Drop, Num: 2, Place: api.Place{Branch: 16}},
		{Kind: api.Drop, Num: 2, Place: api.Place{Branch: 1, Vol: 1}},
		{Kind: api.Drop, Num: 2, Place: api.Place{Branch: 1, Blk: 1}},
		{Kind: api.Drop, Num: 2, Place: api.Place{Branch: 1}, Ref: 1},
		{Kind: api.Hold, Num: 2},
		{Kind: api.Hold, Num: 2, Ref: num + 1},
		{Kind: api.Hold, Num: 2, Ref: 1, From: 1},
		{Kind: api.Hold, Num: 2, Ref: 1, From: minute, To: minute - 1},
		{Kind: api.Hold, Num: 2, Ref: 1, To: minute + 1},
		{Kind: api.Hold, Num: 2, Ref: 1, Until: minute + 1},
		{Kind: api.Hold, Num: 2, Ref: 1, From: minute + 1, To: minute + 1},
		{Kind: api.Hold, Num: 2, Ref: 1, From: -1},
		{Kind: api.Hold, Num: 2, Ref: 1, From: -1, To: -1},
		{Kind: api.Hold, Num: 2, Ref: 1, Until: -1},
		{Kind: api.Lift, Num: 2},
		{Kind: api.Lift, Num: 2, Ref: num + 1},
		{Kind: api.Lift, Num: 2, Ref: 1, Until: 1},
		{Kind: api.Mark, Num: 2, Ref: 1},
		{Kind: api.Mark, Num: 2, Place: api.Place{Branch: 1}},
		{Kind: api.Mark, Num: 2, To: 1},
		{Kind: api.Mark, Num: 2, Body: []byte{0}},
	}
	for _, c := range inner() {
		none, beyond, early, late := c, c, c, c
		none.Num, beyond.Num, early.Min, late.Min = 0, num+1, -1, minute+1
		l = append(l, none, beyond, early, late)
	}
	return l
}

// fields are ways to set one field of a cell to a number; a body has so many bytes, as far as there may be so many.
func fields() map[string]func(c *api.Cell, n int) {
	return map[string]func(c *api.Cell, n int){
		"Kind":   func(c *api.Cell, n int) { c.Kind = n },
		"Num":    func(c *api.Cell, n int) { c.Num = uint64(n) },
		"Min":    func(c *api.Cell, n int) { c.Min = n },
		"Branch": func(c *api.Cell, n int) { c.Place.Branch = n },
		"Vol":    func(c *api.Cell, n int) { c.Place.Vol = n },
		"Blk":    func(c *api.Cell, n int) { c.Place.Blk = n },
		"Ref":    func(c *api.Cell, n int) { c.Ref = uint64(n) },
		"From":   func(c *api.Cell, n int) { c.From = n },
		"To":     func(c *api.Cell, n int) { c.To = n },
		"Until":  func(c *api.Cell, n int) { c.Until = n },
		"Body":   func(c *api.Cell, n int) { c.Body = text(min(max(n, 0), 1<<17)) },
	}
}

// numbers are those around all edges that the chapter names, and some that are like others in their last bytes.
func numbers() []int {
	l := []int{
		math.MinInt, math.MinInt + 1, math.MinInt + 5, math.MinInt32, -1 << 32, -1<<32 + 1, -65536, -65535, -256, -255, -16, -2, -1,
		math.MaxInt - 1, math.MaxInt, 1 << 40, 1<<40 + 1, 1 << 48, 1<<48 + 5, 1 << 62, math.MaxInt32, math.MaxUint32, math.MaxUint32 + 1, 1<<32 + 1, 1<<32 + 5,
	}
	for _, n := range []int{0, 32, 64, 100, 127, 128, 255, 256, 256 + 32, 4096, 0x0908, 0x1234, 32768, 65535, 65536, 1 << 17, 0x01020304, 0x11121314, 0x21222324, 1 << 29, 1 << 30, 1 << 31} {
		l = append(l, n-1, n, n+1)
	}
	for n := range 24 {
		l = append(l, n)
	}
	return l
}

// is looks that a cell may be, and has these bytes.
func is(t *testing.T, c api.Cell, want []byte) {
	t.Helper()
	if !cell.Right(c) {
		t.Errorf("%+v isn't right", c)
	}
	if b, e := cell.Encode(c); e != api.OK || !bytes.Equal(b, want) {
		t.Errorf("Encode of %+v = %x, %v, not %x", c, b, e, want)
	}
	if n := cell.Size(c); n != len(want) {
		t.Errorf("Size of %+v = %d, not %d", c, n, len(want))
	}
}

// isNone looks that a cell may not be.
func isNone(t *testing.T, c api.Cell) {
	t.Helper()
	if cell.Right(c) {
		t.Errorf("%+v is right", c)
	}
	if b, e := cell.Encode(c); e != api.ErrForm || len(b) != 0 {
		t.Errorf("Encode of %+v = %x, %v", c, b, e)
	}
	if n := cell.Size(c); n != 0 {
		t.Errorf("Size of %+v = %d", c, n)
	}
}

// holds looks that all three calls tell of a cell what the plain ones tell.
func holds(t *testing.T, c api.Cell) {
	t.Helper()
	if may(c) {
		is(t, c, plain(c))
	} else {
		isNone(t, c)
	}
}

// P12.1

func TestEncodeByHand(t *testing.T) {
	for _, c := range []struct {
		cell api.Cell
		want string
	}{
		{api.Cell{Kind: api.Mark, Num: 5, Min: 9}, "08 0005 00000009"},
		{inner()[0], "01 1234 01020304 05 06 004d 0001 20" + hex.EncodeToString(text(32))},
		{inner()[1], "02 1234 01020304 05 06 004d 0908"},
		{inner()[2], "03 1234 01020304 05 06 004d 0908 09" + hex.EncodeToString(text(9))},
		{inner()[3], "04 1234 01020304 05 06 0000 0908"},
		{inner()[4], "05 1234 01020304 05 00 0000"},
		{inner()[5], "06 1234 01020304 fedc 11121314 21222324 05060708"},
		{inner()[6], "07 1234 01020304 fedc"},
		{inner()[7], "08 1234 01020304"},
		{api.Cell{Kind: api.Full, Num: num, Min: minute, Place: api.Place{Branch: 15, Vol: 7, Blk: 255}, Body: make([]byte, 32)}, "01 ffff 40000000 0f 07 00ff 0000 20" + strings.Repeat("00", 32)},
	} {
		want, err := hex.DecodeString(strings.ReplaceAll(c.want, " ", ""))
		if err != nil {
			t.Fatal(err)
		}
		is(t, c.cell, want)
	}
}

func TestCellsThatMayBe(t *testing.T) {
	for _, c := range right() {
		is(t, c, plain(c))
		if !may(c) {
			t.Errorf("%+v: the test's own table is wrong", c)
		}
	}
}

func TestCellsThatMayNotBe(t *testing.T) {
	for _, c := range wrong() {
		isNone(t, c)
		if may(c) {
			t.Errorf("%+v: the test's own table is wrong", c)
		}
	}
}

func TestThereAreEightKinds(t *testing.T) {
	for _, c := range right() {
		for _, kind := range []int{0, -1, -8, 9, 10, 16, 255, 256, 256 + c.Kind, 65536 + c.Kind, 1<<32 + c.Kind, c.Kind - 256, math.MinInt + c.Kind, math.MinInt, math.MaxInt} {
			x := c
			x.Kind = kind
			isNone(t, x)
		}
	}
}

// Each field of a cell of each kind is set to each number, and so is each pair of fields of a smaller choice.
func TestEachFieldAtItsEdges(t *testing.T) {
	for _, c := range right() {
		for _, set := range fields() {
			for _, n := range numbers() {
				x := c
				set(&x, n)
				holds(t, x)
			}
		}
	}
}

func TestTwoFieldsAtTheirEdges(t *testing.T) {
	few := []int{math.MinInt, -1, 0, 1, 2, 7, 8, 15, 16, 20, 21, 32, 255, 256, 0x1233, 0x1234, 65534, 65535, 65536, 1 << 30, 1<<30 + 1, math.MaxInt}
	all := fields()
	for _, c := range inner() {
		for one, set := range all {
			for other, also := range all {
				if one >= other || one == "Body" {
					continue
				}
				for _, n := range few {
					for _, m := range few {
						x := c
						set(&x, n)
						also(&x, m)
						holds(t, x)
					}
				}
			}
		}
	}
}

func TestEachForkAndEachDrop(t *testing.T) {
	for branch := -1; branch <= 17; branch++ {
		for parent := -1; parent <= 17; parent++ {
			c := api.Cell{Kind: api.Fork, Num: 7, Min: 3, Place: api.Place{Branch: branch, Vol: parent}, Ref: 6}
			if branch >= 1 && branch <= 15 && parent >= 0 && parent <= 15 && parent != branch {
				is(t, c, []byte{4, 0, 7, 0, 0, 0, 3, byte(branch), byte(parent), 0, 0, 0, 6})
			} else {
				isNone(t, c)
			}
		}
		c := api.Cell{Kind: api.Drop, Num: 7, Min: 3, Place: api.Place{Branch: branch}}
		if branch >= 1 && branch <= 15 {
			is(t, c, []byte{5, 0, 7, 0, 0, 0, 3, byte(branch), 0, 0, 0})
		} else {
			isNone(t, c)
		}
	}
}

func TestEachPlace(t *testing.T) {
	for branch := -1; branch <= 16; branch++ {
		for vol := -1; vol <= 8; vol++ {
			for blk := -1; blk <= 256; blk++ {
				c := api.Cell{Kind: api.Same, Num: 2, Place: api.Place{Branch: branch, Vol: vol, Blk: blk}, Ref: 1}
				there := branch >= 0 && branch < 16 && vol >= 0 && vol < 8 && blk >= 0 && blk < 256
				if cell.Right(c) != there || (cell.Size(c) == 13) != there {
					t.Fatalf("%+v: %v, %d", c, cell.Right(c), cell.Size(c))
				}
			}
		}
	}
}

func TestElderNumbers(t *testing.T) {
	nums := []uint64{1, 2, 3, 4, 255, 256, 257, 258, 65534, 65535, 65536}
	refs := append([]uint64{0, 1 << 16, 1<<16 + 1, 1 << 32, 1<<32 + 1, 1 << 63, math.MaxUint64}, nums...)
	for _, n := range nums {
		for _, ref := range refs {
			elder := n <= num && ref > 0 && ref < n
			for _, c := range []api.Cell{
				{Kind: api.Same, Num: n, Ref: ref},
				{Kind: api.Delta, Num: n, Ref: ref, Body: text(3)},
				{Kind: api.Fork, Num: n, Place: api.Place{Branch: 2}, Ref: ref},
			} {
				if cell.Right(c) != elder {
					t.Errorf("%+v: %v", c, !elder)
				}
				holds(t, c)
			}
			for _, c := range []api.Cell{{Kind: api.Hold, Num: n, Ref: ref}, {Kind: api.Lift, Num: n, Ref: ref}} {
				if cell.Right(c) != (n <= num && ref > 0 && ref <= num) {
					t.Errorf("%+v", c)
				}
				holds(t, c)
			}
		}
	}
}

func TestEachLengthOfABody(t *testing.T) {
	for _, c := range inner() {
		for size := range 300 {
			c.Body = text(size)
			ok := size == 0 && c.Kind != api.Full && c.Kind != api.Delta || c.Kind == api.Full && size == 32 || c.Kind == api.Delta && size >= 1 && size <= 20
			if cell.Right(c) != ok {
				t.Errorf("kind %d with %d bytes: %v", c.Kind, size, !ok)
			}
			holds(t, c)
		}
		for _, size := range []int{512, 512 + 32, 65536, 65536 + 1, 65536 + 32, 1 << 20} {
			c.Body = make([]byte, size)
			isNone(t, c)
		}
	}
}

func TestABodyOfNoBytesIsNone(t *testing.T) {
	for _, c := range right() {
		x, y := c, c
		x.Body, y.Body = nil, text(40)[:0]
		holds(t, x)
		holds(t, y)
		if !cell.Same(x, y) {
			t.Errorf("%+v and %+v aren't the same", x, y)
		}
	}
}

// pick is a number by chance: one of those at the edges, or a small one.
func pick(r *rand.Rand, l []int) int {
	if r.Intn(3) == 0 {
		return l[r.Intn(len(l))]
	}
	return r.Intn(40) - 1
}

// anyCell is a cell by chance: few of its fields are other ones than those of a cell that may be.
func anyCell(r *rand.Rand) api.Cell {
	l := right()
	c := l[r.Intn(len(l))]
	c.Num, c.Min = uint64(1+r.Intn(num)), r.Intn(minute+1)
	c.Body = slices.Clone(c.Body)
	r.Read(c.Body)
	nums := numbers()
	all := fields()
	for _, name := range []string{"Kind", "Num", "Min", "Branch", "Vol", "Blk", "Ref", "From", "To", "Until", "Body"} {
		if r.Intn(14) == 0 {
			all[name](&c, pick(r, nums))
		}
	}
	return c
}

func TestCellsByChance(t *testing.T) {
	r := rand.New(rand.NewSource(12))
	ok := map[int]int{}
	for range 40000 {
		c := anyCell(r)
		holds(t, c)
		if may(c) {
			ok[c.Kind]++
		}
	}
	for kind := 1; kind <= 8; kind++ {
		if ok[kind] < 500 {
			t.Errorf("only %d cells of kind %d may be", ok[kind], kind)
		}
	}
}

func TestUnlikeCellsHaveUnlikeBytes(t *testing.T) {
	seen := map[string]api.Cell{}
	look := func(c api.Cell) {
		b, e := cell.Encode(c)
		if e != api.OK {
			return
		}
		if was, ok := seen[string(b)]; ok && !same(was, c) {
			t.Errorf("%+v and %+v have the same bytes", was, c)
		}
		seen[string(b)] = c
	}
	for _, c := range right() {
		look(c)
		for _, set := range fields() {
			for _, n := range numbers() {
				x := c
				set(&x, n)
				look(x)
			}
		}
	}
}

func TestEncodeTellsNewMemory(t *testing.T) {
	for _, c := range right() {
		body, want := slices.Clone(c.Body), plain(c)
		one, _ := cell.Encode(c)
		two, _ := cell.Encode(c)
		for i := range one[:cap(one)] {
			one[:cap(one)][i] = 0xee
		}
		if !bytes.Equal(two, want) || !bytes.Equal(c.Body, body) {
			t.Errorf("what is written over in the bytes of %+v changes others", c)
		}
		for i := range c.Body {
			c.Body[i] ^= 0x55
		}
		if !bytes.Equal(two, want) {
			t.Errorf("what is written over in the body of kind %d changes its bytes", c.Kind)
		}
	}
}

func TestWhatLiesBehindABodyIsLeftAlone(t *testing.T) {
	for _, kind := range []int{api.Full, api.Delta} {
		for size := range 40 {
			room := text(120)
			c := api.Cell{Kind: kind, Num: 9, Ref: 1, Body: room[:size]}
			holds(t, c)
			if b, e := cell.Encode(c); e == api.OK {
				cell.Decode(append(b, 1, 2, 3))
			}
			cell.Same(c, c)
			if !bytes.Equal(room, text(120)) {
				t.Fatalf("kind %d, %d bytes: %x", kind, size, room)
			}
		}
	}
}

// P12.1: Same

func sameness(t *testing.T, a, b api.Cell, want bool) {
	t.Helper()
	if cell.Same(a, b) != want || cell.Same(b, a) != want {
		t.Errorf("Same of %+v and %+v: not %v", a, b, want)
	}
}

func TestSameOfEachField(t *testing.T) {
	all := append(right(), wrong()...)
	for i, c := range all {
		x := c
		x.Body = slices.Clone(c.Body)
		sameness(t, c, x, true)
		for _, set := range fields() {
			for _, n := range numbers() {
				x := c
				set(&x, n)
				sameness(t, c, x, same(c, x))
			}
		}
		for j, d := range all {
			sameness(t, c, d, same(c, d))
			if i == j {
				sameness(t, c, d, true)
			}
		}
	}
}

// Fields that the kind hasn't count, too, and so do those of cells that may not be.
func TestSameOfAllFieldsOfAnyCell(t *testing.T) {
	full := api.Cell{Kind: -3, Num: math.MaxUint64, Min: math.MinInt, Place: api.Place{Branch: -1, Vol: 99, Blk: math.MaxInt}, Ref: 1 << 63, From: 7, To: -7, Until: 1 << 40, Body: text(100)}
	twin := full
	twin.Body = text(100)
	sameness(t, full, twin, true)
	for name, set := range fields() {
		for _, n := range []int{-2, 0, 1, 5, 1 << 35} {
			x := full
			set(&x, n)
			if same(full, x) {
				t.Fatalf("%s: %d is no other one", name, n)
			}
			sameness(t, full, x, false)
			sameness(t, api.Cell{}, x, false)
		}
	}
	sameness(t, api.Cell{}, api.Cell{}, true)
}

func TestSameOfBodies(t *testing.T) {
	c := api.Cell{Kind: api.Delta, Num: 2, Ref: 1, Body: text(20)}
	for i := range c.Body {
		for bit := range 8 {
			x := c
			x.Body = slices.Clone(c.Body)
			x.Body[i] ^= 1 << bit
			sameness(t, c, x, false)
		}
	}
	room := text(300)
	for size := range 300 {
		for _, other := range []int{size - 1, size, size + 1} {
			if other < 0 {
				continue
			}
			a, b := api.Cell{Kind: api.Mark, Body: room[:size]}, api.Cell{Kind: api.Mark, Body: room[:other]}
			sameness(t, a, b, size == other)
			b.Body = slices.Clone(b.Body)
			sameness(t, a, b, size == other)
		}
	}
	sameness(t, api.Cell{Body: nil}, api.Cell{Body: []byte{}}, true)
	sameness(t, api.Cell{Body: nil}, api.Cell{Body: []byte{0}}, false)
}

// P12.1: Moment

func TestMomentHangsOnTheKindAlone(t *testing.T) {
	for _, kind := range numbers() {
		want := kind == 1 || kind == 2 || kind == 3
		for _, c := range append(right(), wrong()...) {
			c.Kind = kind
			if cell.Moment(c) != want {
				t.Fatalf("Moment of %+v: not %v", c, want)
			}
		}
	}
	for kind, want := range map[int]bool{api.Full: true, api.Same: true, api.Delta: true, api.Fork: false, api.Drop: false, api.Hold: false, api.Lift: false, api.Mark: false} {
		if cell.Moment(api.Cell{Kind: kind}) != want {
			t.Errorf("Moment of kind %d: not %v", kind, want)
		}
	}
}

// P12.2

// decodes looks that Decode tells a cell and a rest.
func decodes(t *testing.T, b []byte, want api.Cell, rest []byte) {
	t.Helper()
	c, r, e := cell.Decode(b)
	if e != api.OK || !same(c, want) || !bytes.Equal(r, rest) {
		t.Errorf("Decode of %x = %+v, %x, %v, not %+v, %x", b, c, r, e, want, rest)
	}
}

// noDecode looks that Decode tells an error and nothing else.
func noDecode(t *testing.T, b []byte, want api.Errno) {
	t.Helper()
	c, r, e := cell.Decode(b)
	if e != want || !same(c, api.Cell{}) || len(r) != 0 {
		t.Errorf("Decode of %x = %+v, %x, %v, not %v", b, c, r, e, want)
	}
}

// reads looks that Decode tells what the plain reading tells.
func reads(t *testing.T, b []byte) {
	t.Helper()
	if c, size, e := plainCell(b); e == api.OK {
		decodes(t, b, c, b[size:])
	} else {
		noDecode(t, b, e)
	}
}

func TestDecodeTellsWhatWasEncoded(t *testing.T) {
	for _, c := range right() {
		b, e := cell.Encode(c)
		if e != api.OK {
			t.Fatal(c, e)
		}
		for _, rest := range [][]byte{nil, {0}, {1}, {8}, {255}, text(2), text(32), text(33), text(256), make([]byte, 70000), b} {
			decodes(t, slices.Concat(b, rest), c, rest)
		}
	}
	decodes(t, []byte{8, 0, 5, 0, 0, 0, 9}, api.Cell{Kind: api.Mark, Num: 5, Min: 9}, nil)
}

func TestDecodeOfARow(t *testing.T) {
	var row []byte
	for _, c := range right() {
		row = append(row, plain(c)...)
	}
	for _, c := range right() {
		row = row[len(plain(c)):]
		all := slices.Concat(plain(c), row)
		decodes(t, all, c, row)
	}
	if len(row) != 0 {
		t.Errorf("%d bytes are left", len(row))
	}
}

func TestDecodeOfNothing(t *testing.T) {
	noDecode(t, nil, api.ErrEnd)
	noDecode(t, []byte{}, api.ErrEnd)
	noDecode(t, plain(inner()[0])[:0], api.ErrEnd)
}

// What was cut off is there still behind the list's length, and isn't read.
func TestDecodeOfEachEarlyEnd(t *testing.T) {
	for _, c := range right() {
		b := plain(c)
		for i := range b {
			noDecode(t, b[:i], api.ErrEnd)
			noDecode(t, slices.Clone(b[:i]), api.ErrEnd)
		}
	}
}

// ErrEnd goes ahead of ErrForm, as long as there is the kind.
func TestDecodeOfEarlyEndsOfCellsThatMayNotBe(t *testing.T) {
	for _, c := range wrong() {
		if c.Kind == 0 || c.Min < 0 || c.Num > num || c.Ref > num || c.Place.Blk > num || c.From < 0 || c.Until < 0 {
			continue
		}
		b := plain(c)
		for i := range b {
			noDecode(t, b[:i], api.ErrEnd)
		}
		if d, _, e := plainCell(b); e == api.OK {
			decodes(t, b, d, nil) // what is wrong with it has no bytes
			continue
		}
		noDecode(t, b, api.ErrForm)
		noDecode(t, slices.Concat(b, text(99)), api.ErrForm)
	}
}

func TestDecodeOfEachKind(t *testing.T) {
	for kind := range 256 {
		b := append([]byte{byte(kind)}, make([]byte, 300)...)
		for _, size := range []int{1, 2, 7, 9, 11, 13, 14, 21, 46, 301} {
			if kind >= 1 && kind <= 8 {
				reads(t, b[:size])
			} else {
				noDecode(t, b[:size], api.ErrForm)
			}
		}
	}
	for kind := 1; kind <= 8; kind++ {
		noDecode(t, []byte{byte(kind)}, api.ErrEnd)
		noDecode(t, append([]byte{byte(kind)}, make([]byte, 300)...), api.ErrForm)
	}
}

func TestDecodeOfEachLengthOfABody(t *testing.T) {
	for kind, may := range map[int]func(n int) bool{
		api.Full:  func(n int) bool { return n == 32 },
		api.Delta: func(n int) bool { return n >= 1 && n <= 20 },
	} {
		for n := range 256 {
			b := slices.Concat([]byte{byte(kind), 0, 9, 0, 0, 0, 7, 1, 2, 0, 3, 0, 1, byte(n)}, text(n))
			for i := range b {
				noDecode(t, b[:i], api.ErrEnd)
			}
			for _, rest := range [][]byte{nil, {5}, text(300)} {
				all := slices.Concat(b, rest)
				if may(n) {
					decodes(t, all, api.Cell{Kind: kind, Num: 9, Min: 7, Place: api.Place{Branch: 1, Vol: 2, Blk: 3}, Ref: 1, Body: text(n)}, rest)
				} else {
					noDecode(t, all, api.ErrForm)
				}
			}
		}
	}
}

func TestDecodeByHand(t *testing.T) {
	for s, want := range map[string]api.Errno{
		"08 0000 00000000":      api.ErrForm, // Num
		"08 0001 40000000":      api.OK,
		"08 0001 40000001":      api.ErrForm, // Min
		"08 0001 80000000":      api.ErrForm,
		"08 ffff ffffffff":      api.ErrForm,
		"07 0001 00000000 0000": api.ErrForm, // Ref
		"07 0001 00000000 ffff": api.OK,
		"06 0001 00000000 0001 00000000 00000000 00000000": api.OK,
		"06 0001 00000000 0000 00000000 00000000 00000000": api.ErrForm,
		"06 0001 00000000 0001 00000001 00000000 00000000": api.ErrForm, // From above To
		"06 0001 00000000 0001 40000000 40000000 00000000": api.OK,
		"06 0001 00000000 0001 00000000 40000001 00000000": api.ErrForm,
		"06 0001 00000000 0001 00000000 00000000 40000001": api.ErrForm,
		"06 0001 00000000 0001 00000000 ffffffff 00000000": api.ErrForm,
		"05 0001 00000000 01 00 0000":                      api.OK,
		"05 0001 00000000 00 00 0000":                      api.ErrForm,
		"05 0001 00000000 10 00 0000":                      api.ErrForm,
		"05 0001 00000000 01 01 0000":                      api.ErrForm, // Vol of a Drop
		"05 0001 00000000 01 00 0001":                      api.ErrForm,
		"05 0001 00000000 01 00 0100":                      api.ErrForm,
		"04 0002 00000000 01 00 0000 0001":                 api.OK,
		"04 0002 00000000 01 01 0000 0001":                 api.ErrForm, // its own parent
		"04 0002 00000000 01 10 0000 0001":                 api.ErrForm,
		"04 0002 00000000 01 00 0001 0001":                 api.ErrForm, // Blk of a Fork
		"04 0002 00000000 01 00 0000 0000":                 api.ErrForm,
		"04 0002 00000000 01 00 0000 0002":                 api.ErrForm,
		"02 0002 00000000 0f 07 00ff 0001":                 api.OK,
		"02 0002 00000000 10 07 00ff 0001":                 api.ErrForm,
		"02 0002 00000000 0f 08 00ff 0001":                 api.ErrForm,
		"02 0002 00000000 0f 07 0100 0001":                 api.ErrForm,
		"02 0002 00000000 0f 07 00ff 0002":                 api.ErrForm,
		"03 0002 00000000 0f 07 00ff 0001 00":              api.ErrForm,
		"03 0002 00000000 0f 07 00ff 0001 01":              api.ErrEnd,
		"03 0002 00000000 0f 07 00ff 0001 01 99":           api.OK,
		"03 0002 00000000 0f 07 00ff 0001 ff 99":           api.ErrEnd, // as far as its length tells
		"01 0001 00000000 00 00 0000 0002 21 00":           api.ErrEnd,
		"01 0001 00000000 00 00 0000 0002 00":              api.ErrForm,
		"01 0000":                                          api.ErrEnd,
		"00":                                               api.ErrForm,
		"00 0000":                                          api.ErrForm,
		"09":                                               api.ErrForm,
		"ff":                                               api.ErrForm,
	} {
		b, err := hex.DecodeString(strings.ReplaceAll(s, " ", ""))
		if err != nil {
			t.Fatal(err)
		}
		if _, _, e := cell.Decode(b); e != want {
			t.Errorf("Decode of %s: %v, not %v", s, e, want)
		}
		reads(t, b)
	}
}

func TestDecodeWhereOneByteIsAnother(t *testing.T) {
	for _, c := range right() {
		b := append(plain(c), text(40)...)
		for i := range plain(c) {
			for x := range 256 {
				y := slices.Clone(b)
				y[i] = byte(x)
				reads(t, y)
				reads(t, y[:len(plain(c))])
			}
		}
	}
}

func TestDecodeOfBytesByChance(t *testing.T) {
	r := rand.New(rand.NewSource(21))
	for range 60000 {
		b := make([]byte, r.Intn(80))
		r.Read(b)
		if len(b) > 0 {
			b[0] = byte(r.Intn(11))
		}
		for i := range b[min(1, len(b)):] { // small bytes, that the fields may more often be right
			if r.Intn(4) > 0 {
				b[i+1] = byte(r.Intn(3))
			}
		}
		if len(b) > 13 && r.Intn(2) == 0 {
			b[13] = byte(r.Intn(40))
		}
		reads(t, b)
	}
}

func TestWhatDecodeTellsHasTheseBytes(t *testing.T) {
	r := rand.New(rand.NewSource(3))
	for range 20000 {
		c := anyCell(r)
		b, e := cell.Encode(c)
		if e != api.OK {
			continue
		}
		d, rest, e := cell.Decode(b)
		if e != api.OK || len(rest) != 0 || !cell.Same(c, d) || !cell.Right(d) {
			t.Fatalf("Decode of %x = %+v, %x, %v", b, d, rest, e)
		}
		if again, e := cell.Encode(d); e != api.OK || !bytes.Equal(again, b) {
			t.Fatalf("%x became %x, %v", b, again, e)
		}
	}
}

func TestDecodeTellsNewMemory(t *testing.T) {
	for _, c := range right() {
		b := append(plain(c), text(50)...)
		before := slices.Clone(b)
		one, rest, _ := cell.Decode(b)
		two, other, _ := cell.Decode(b)
		for i := range one.Body[:cap(one.Body)] {
			one.Body[:cap(one.Body)][i] = 0xee
		}
		if !bytes.Equal(rest, text(50)) {
			t.Fatalf("kind %d: what is written over in the body changes the rest", c.Kind)
		}
		for i := range rest[:cap(rest)] {
			rest[:cap(rest)][i] = 0xdd
		}
		if !bytes.Equal(b, before) || !same(two, c) || !bytes.Equal(other, text(50)) {
			t.Fatalf("kind %d: what is written over changes others", c.Kind)
		}
		clear(b)
		if !same(two, c) || !bytes.Equal(other, text(50)) {
			t.Fatalf("kind %d: what is written over in the bytes changes the cell", c.Kind)
		}
	}
}

func TestDecodeLeavesAloneWhatLiesBehind(t *testing.T) {
	for _, c := range right() {
		room := slices.Concat(plain(c), text(90))
		before := slices.Clone(room)
		for size := range room {
			_, rest, e := cell.Decode(room[:size])
			if e == api.OK {
				_ = append(rest, 1, 2, 3, 4)
			}
			if !bytes.Equal(room, before) || e == api.OK && len(rest) != size-len(plain(c)) {
				t.Fatalf("kind %d, %d bytes: %x, %v", c.Kind, size, rest, e)
			}
		}
	}
}
