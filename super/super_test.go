package super_test

import (
	"bytes"
	"encoding/binary"
	"encoding/hex"
	"math"
	"math/rand"
	"slices"
	"testing"

	"erewhile/api"
	"erewhile/cipher"
	"erewhile/device"
	"erewhile/mirror"
	"erewhile/sector"
	"erewhile/super"
)

var ours = cipher.Real{}

// other sums otherwise than ours.
type other struct{ cipher.Real }

func (other) Sum(k api.Key, b []byte) api.Sum {
	s := ours.Sum(k, b)
	s[0] ^= 1
	return s
}

// every says so of every sector.
func every(int, api.Sector) bool { return true }

// may are supers that may be, around all ends.
func may() (l []super.Super) {
	for _, version := range versions() {
		for _, now := range []int{0, 1, 255, 256, 65536, 1 << 24, 0x01020304, 1<<30 - 1, 1 << 30} {
			for _, top := range []uint64{0, 1, 32, 255, 256, 0x0102, 65534, 65535} {
				l = append(l, super.Super{Version: version, Now: now, Top: top})
			}
		}
	}
	return l
}

func versions() []uint64 {
	return []uint64{0, 1, 2, 3, 255, 256, math.MaxUint32, 1 << 32, 0x0102030405060708, math.MaxInt64, 1 << 63, math.MaxUint64 - 1, math.MaxUint64}
}

// mayNot are supers that may not be, some of which are like others in their last bytes.
func mayNot() (l []super.Super) {
	nows := []int{-1, -2, -1 << 30, -1 << 32, math.MinInt32, math.MinInt, math.MinInt + 1, 1<<30 + 1, math.MaxInt32, math.MaxUint32, 1 << 32, 1<<32 + 7, 1 << 62, math.MaxInt}
	tops := []uint64{65536, 65537, 1<<16 + 32, 1 << 32, 1<<32 + 32, 1 << 63, math.MaxUint64 - 1, math.MaxUint64}
	for _, version := range versions() {
		for _, now := range nows {
			l = append(l, super.Super{Version: version, Now: now, Top: 32})
		}
		for _, top := range tops {
			l = append(l, super.Super{Version: version, Now: 7, Top: top})
		}
		l = append(l, super.Super{Version: version, Now: -1, Top: 65536})
	}
	return l
}

// plain lays the numbers behind one another, as they are.
func plain(version uint64, now uint32, top uint16) []byte {
	b := binary.BigEndian.AppendUint64(nil, version)
	b = binary.BigEndian.AppendUint32(b, now)
	return binary.BigEndian.AppendUint16(b, top)
}

// of is the sealed sector of a super's bytes, at the place and of the generation at which they are to stand.
func of(t *testing.T, s super.Super) api.Sector {
	t.Helper()
	return seal(t, ours, place(s.Version), s.Version, plain(s.Version, uint32(s.Now), uint16(s.Top)))
}

func place(version uint64) int { return int(version & 1) }

func seal(t *testing.T, c api.Cipher, at int, gen uint64, body []byte) api.Sector {
	t.Helper()
	s, ok := sector.Pack(c, at, gen, body)
	if !ok {
		t.Fatalf("no sealed sector at %d of %x", at, body)
	}
	return s
}

// set is two devices of one power, and a mirror of them.
type set struct {
	t    *testing.T
	p    *device.Power
	d    [2]*device.Device
	good func(int, api.Sector) bool
	m    *mirror.Mirror
}

func made(t *testing.T) *set { return madeOf(t, 4, 4, sector.Good(ours)) }

func madeOf(t *testing.T, first, second int, good func(int, api.Sector) bool) *set {
	p := device.NewPower()
	x := &set{t: t, p: p, d: [2]*device.Device{device.New(first, p), device.New(second, p)}, good: good}
	x.again()
	return x
}

// again makes a new mirror of the same devices.
func (x *set) again() { x.m = mirror.New(x.d[0], x.d[1], x.good) }

// out takes both devices out, or puts them in.
func (x *set) out(on bool) {
	x.d[0].Out(on)
	x.d[1].Out(on)
}

// off turns the power off.
func (x *set) off() {
	x.t.Helper()
	x.p.Fail(0)
	if x.d[0].Flush() != api.ErrDown || x.p.On() {
		x.t.Fatal("power doesn't fail")
	}
}

// lays writes to a device past the mirror, and flushes it.
func (x *set) lays(i, at int, s api.Sector) {
	x.t.Helper()
	if x.d[i].Write(at, s) != api.OK || x.d[i].Flush() != api.OK {
		x.t.Fatalf("device %d takes nothing at %d", i, at)
	}
}

func (x *set) lay(i int, s super.Super) {
	x.t.Helper()
	x.lays(i, place(s.Version), of(x.t, s))
}

func (x *set) write(s super.Super, want api.Errno) {
	x.t.Helper()
	if e := super.Write(x.m, ours, s); e != want {
		x.t.Fatalf("Write(%v) = %v, not %v", s, e, want)
	}
}

func (x *set) read(want super.Super) {
	x.t.Helper()
	if s, e := super.Read(x.m, ours); s != want || e != api.OK {
		x.t.Fatalf("Read() = %v, %v, not %v", s, e, want)
	}
}

func (x *set) noRead(want api.Errno) {
	x.t.Helper()
	if s, e := super.Read(x.m, ours); s != (super.Super{}) || e != want {
		x.t.Fatalf("Read() = %v, %v, not %v", s, e, want)
	}
}

// waits asks how many writes wait on each device.
func (x *set) waits(first, second int) {
	x.t.Helper()
	if a, b := x.d[0].Waiting(), x.d[1].Waiting(); a != first || b != second {
		x.t.Fatalf("%d and %d writes wait, not %d and %d", a, b, first, second)
	}
}

// stable asks what a device has without what waits.
func (x *set) stable(i int, want ...api.Sector) {
	x.t.Helper()
	if got := x.d[i].Dump(); !slices.Equal(got, want) {
		x.t.Fatalf("device %d has %x, not %x", i, got, want)
	}
}

func at(version uint64) super.Super {
	return super.Super{Version: version, Now: int(version*10) & 0xffff, Top: version * 32 & 0xffff}
}

// P16.1

func TestBytesByHand(t *testing.T) {
	for _, x := range []struct {
		s    super.Super
		want string
	}{
		{super.Super{Version: 3, Now: 7, Top: 32}, "0000000000000003" + "00000007" + "0020"},
		{super.Super{}, "0000000000000000" + "00000000" + "0000"},
		{super.Super{Version: 0x0102030405060708, Now: 0x0a0b0c0d, Top: 0x0e0f}, "0102030405060708" + "0a0b0c0d" + "0e0f"},
		{super.Super{Version: math.MaxUint64, Now: 1 << 30, Top: 65535}, "ffffffffffffffff" + "40000000" + "ffff"},
	} {
		if got := hex.EncodeToString(super.Encode(x.s)); got != x.want {
			t.Errorf("Encode(%v) = %s, not %s", x.s, got, x.want)
		}
	}
}

func TestDecodeTellsWhatWasEncoded(t *testing.T) {
	for _, s := range may() {
		b := super.Encode(s)
		if !bytes.Equal(b, plain(s.Version, uint32(s.Now), uint16(s.Top))) {
			t.Fatalf("Encode(%v) = %x", s, b)
		}
		if got, ok := super.Decode(b); got != s || !ok {
			t.Fatalf("Decode(%x) = %v, %v, not %v", b, got, ok, s)
		}
	}
}

func TestEncodeTellsNoneOfOneThatMayNotBe(t *testing.T) {
	for _, s := range mayNot() {
		if b := super.Encode(s); len(b) != 0 {
			t.Errorf("Encode(%v) = %x", s, b)
		}
	}
}

func noDecode(t *testing.T, b []byte) {
	t.Helper()
	if s, ok := super.Decode(b); ok || s != (super.Super{}) {
		t.Errorf("Decode(%x) = %v, %v", b, s, ok)
	}
}

func TestDecodeTellsNoneOfAnyOtherLength(t *testing.T) {
	noDecode(t, nil)
	whole := super.Encode(at(3))
	for size := range 200 {
		if size != 14 {
			noDecode(t, make([]byte, size))
			noDecode(t, append(slices.Clone(whole), make([]byte, size)...)[:size])
			noDecode(t, slices.Concat(make([]byte, max(size-14, 0)), whole)[:size])
		}
	}
	noDecode(t, slices.Concat(whole, whole))
	noDecode(t, make([]byte, 1<<16+14))
}

func TestDecodeTellsNoneWhereNowMayNotBe(t *testing.T) {
	for _, now := range []uint32{1<<30 + 1, 1<<30 | 1<<8, 1<<30 | 1<<16, 1<<30 | 1<<24, 1<<31 - 1, 1 << 31, 1<<31 | 7, math.MaxUint32} {
		noDecode(t, plain(3, now, 32))
	}
}

// Each row of 14 bytes is that of the super whose numbers they are, or of none.
func TestDecodeByChance(t *testing.T) {
	r := rand.New(rand.NewSource(16))
	b := make([]byte, 14)
	for range 20000 {
		r.Read(b)
		want := super.Super{Version: binary.BigEndian.Uint64(b), Now: int(binary.BigEndian.Uint32(b[8:])), Top: uint64(binary.BigEndian.Uint16(b[12:]))}
		if want.Now > 1<<30 {
			noDecode(t, b)
			continue
		}
		if s, ok := super.Decode(b); s != want || !ok || !bytes.Equal(super.Encode(s), b) {
			t.Fatalf("Decode(%x) = %v, %v, not %v", b, s, ok, want)
		}
	}
}

func TestBytesAreNewMemory(t *testing.T) {
	s := at(3)
	b := super.Encode(s)
	clear(b)
	_ = append(b, 1, 2, 3)
	if again := super.Encode(s); !bytes.Equal(again, plain(3, 30, 96)) {
		t.Fatalf("Encode = %x", again)
	}
}

func TestDecodeReadsAndWritesNothingElse(t *testing.T) {
	row := append(super.Encode(at(3)), super.Encode(at(4))...)
	before := slices.Clone(row)
	if s, ok := super.Decode(row[:14]); s != at(3) || !ok {
		t.Fatalf("Decode = %v, %v", s, ok)
	}
	noDecode(t, row[:13])
	noDecode(t, row[:0])
	if !bytes.Equal(row, before) {
		t.Fatalf("%x", row)
	}
}

// P16.2

func TestWriteLaysTheSectorAtItsPlace(t *testing.T) {
	for _, s := range may() {
		x := madeOf(t, 3, 3, sector.Good(ours))
		x.write(s, api.OK)
		want := make([]api.Sector, 3)
		want[place(s.Version)] = of(t, s)
		x.stable(0, want...)
		x.stable(1, want...)
		x.waits(0, 0)
		x.read(s)
	}
}

func TestWriteOfTheExample(t *testing.T) {
	x := made(t)
	x.write(super.Super{Version: 3, Now: 7, Top: 32}, api.OK)
	gen, body, ok := sector.Unpack(ours, 1, x.d[1].Dump()[1])
	if gen != 3 || hex.EncodeToString(body) != "0000000000000003"+"00000007"+"0020" || !ok {
		t.Fatalf("at the place 1: %d, %x, %v", gen, body, ok)
	}
}

func TestWriteByTheCipherThatItWasHanded(t *testing.T) {
	x := madeOf(t, 2, 2, sector.Good(other{}))
	if e := super.Write(x.m, other{}, at(2)); e != api.OK {
		t.Fatal(e)
	}
	x.stable(0, seal(t, other{}, 0, 2, plain(2, 20, 64)), api.Sector{})
	if s, e := super.Read(x.m, other{}); s != at(2) || e != api.OK {
		t.Fatalf("Read = %v, %v", s, e)
	}
	x.noRead(api.ErrNone)
}

func TestEachPlaceIsWrittenInTurn(t *testing.T) {
	x := made(t)
	var want [2]api.Sector
	for version := range uint64(9) {
		x.write(at(version), api.OK)
		want[place(version)] = of(t, at(version))
		for i := range x.d {
			x.stable(i, want[0], want[1], api.Sector{}, api.Sector{})
		}
		x.read(at(version))
	}
}

// What stands there is written over, whatever it is.
func TestWriteAsksForNothingThatStands(t *testing.T) {
	x := made(t)
	for _, s := range []super.Super{at(8), {Version: 8, Now: 1, Top: 2}, at(6), at(0), at(2), at(2), {Version: 0, Now: 5}} {
		x.write(s, api.OK)
		x.stable(0, of(t, s), api.Sector{}, api.Sector{}, api.Sector{})
		x.read(s)
	}
	x = madeOf(t, 4, 4, nil) // nothing is good
	x.write(at(3), api.OK)
	x.stable(1, api.Sector{}, of(t, at(3)), api.Sector{}, api.Sector{})
}

func TestWriteFlushesAll(t *testing.T) {
	x := made(t)
	if x.m.Write(3, api.Sector{7}) != api.OK || x.d[1].Write(2, api.Sector{8}) != api.OK {
		t.Fatal("Write")
	}
	x.write(at(4), api.OK)
	x.waits(0, 0)
	x.stable(0, of(t, at(4)), api.Sector{}, api.Sector{}, api.Sector{7})
	x.stable(1, of(t, at(4)), api.Sector{}, api.Sector{8}, api.Sector{7})
}

func TestErrorsOfWriteInTheirOrder(t *testing.T) {
	x := made(t)
	none := madeOf(t, 1, 4, sector.Good(ours))
	x.d[0].Write(2, api.Sector{7}) // as long as it waits nothing was flushed
	none.d[0].Write(0, api.Sector{7})
	wrong, odd := super.Super{Version: 3, Now: -1}, at(3)
	for _, y := range []struct {
		m    *mirror.Mirror
		c    api.Cipher
		s    super.Super
		want api.Errno
	}{
		{nil, nil, wrong, api.ErrArg}, {nil, ours, wrong, api.ErrArg}, {nil, ours, odd, api.ErrArg}, {nil, nil, odd, api.ErrArg},
		{x.m, nil, wrong, api.ErrArg}, {x.m, nil, odd, api.ErrArg}, {none.m, nil, odd, api.ErrArg},
		{x.m, ours, wrong, api.ErrForm}, {none.m, ours, wrong, api.ErrForm},
		{none.m, ours, odd, api.ErrRange},
	} {
		if e := super.Write(y.m, y.c, y.s); e != y.want {
			t.Errorf("Write(%v, %v, %v) = %v, not %v", y.m != nil, y.c, y.s, e, y.want)
		}
	}
	x.waits(1, 0)
	none.waits(1, 0)
	x.noRead(api.ErrNone)
	x.out(true)
	none.out(true)
	x.write(wrong, api.ErrForm)
	x.write(odd, api.ErrDown)
	none.write(odd, api.ErrRange)
	none.write(at(2), api.ErrDown)
	if e := super.Write(x.m, nil, odd); e != api.ErrArg {
		t.Errorf("Write = %v", e)
	}
}

func TestWriteOfOneThatMayNotBe(t *testing.T) {
	x := made(t)
	x.write(at(1), api.OK)
	x.d[1].Write(2, api.Sector{7})
	for _, s := range mayNot() {
		x.write(s, api.ErrForm)
	}
	x.waits(0, 1)
	x.read(at(1))
	x.stable(0, api.Sector{}, of(t, at(1)), api.Sector{}, api.Sector{})
}

func TestMirrorsOfFewPlaces(t *testing.T) {
	for _, y := range [][2]int{{0, 0}, {0, 4}, {4, 0}, {-1, 2}, {1, 1}, {1, 4}, {4, 1}} {
		x := madeOf(t, y[0], y[1], sector.Good(ours))
		x.noRead(api.ErrNone)
		x.write(at(5), api.ErrRange)
		x.noRead(api.ErrNone)
		if x.m.Len() == 1 {
			x.write(at(4), api.OK)
			x.write(at(5), api.ErrRange)
			x.read(at(4))
		} else {
			x.write(at(4), api.ErrRange)
		}
	}
	x := &set{t: t, m: mirror.New(nil, device.New(4, nil), sector.Good(ours))}
	x.write(at(4), api.ErrRange)
	x.noRead(api.ErrNone)
}

func TestWriteWhereOneDeviceIsThere(t *testing.T) {
	for i := range 2 {
		x := made(t)
		x.write(at(1), api.OK)
		x.write(at(2), api.OK)
		x.d[i].Out(true)
		x.write(at(3), api.OK)
		x.read(at(3))
		x.stable(i, of(t, at(2)), of(t, at(1)), api.Sector{}, api.Sector{})
		x.stable(1-i, of(t, at(2)), of(t, at(3)), api.Sector{}, api.Sector{})
		x.d[i].Out(false)
		x.read(at(3))
		x.again()
		x.read(at(3))
		x.d[1-i].Out(true)
		x.read(at(2)) // stale, or not: what that device has
	}
}

func TestWriteTellsWhatFlushTells(t *testing.T) {
	x := made(t)
	for after, want := range []api.Errno{api.ErrDown, api.ErrDown, api.ErrDown, api.ErrDown, api.OK} {
		x.p.Fail(after)
		x.write(at(uint64(after)), want)
		if x.p.On() != (want == api.OK) {
			t.Fatalf("power fails behind %d operations", after)
		}
		x.p.Restart()
	}
}

func TestWriteIsTwoWritesAndTwoFlushes(t *testing.T) {
	x := made(t)
	x.p.Fail(4)
	x.write(at(1), api.OK)
	if !x.p.On() || x.d[0].Flush() != api.ErrDown || x.p.On() {
		t.Fatal("it wasn't 4 operations")
	}
}

// Each device has a power of its own.
func TestPowerFailsOnOneSide(t *testing.T) {
	for i := range 2 {
		for after, want := range []api.Errno{api.OK, api.ErrDown, api.OK} {
			p := [2]*device.Power{device.NewPower(), device.NewPower()}
			x := &set{t: t, d: [2]*device.Device{device.New(2, p[0]), device.New(2, p[1])}, good: sector.Good(ours)}
			x.again()
			x.write(at(1), api.OK)
			p[i].Fail(after)
			x.write(at(2), want) // at its write: the other one has it; at its flush: that is told; behind both
			x.stable(1-i, of(t, at(2)), of(t, at(1)))
			x.read(at(2))
			p[i].Restart()
			x.again()
			x.read(at(2))
		}
	}
}

func TestWriteTakesLiesForTrue(t *testing.T) {
	x := made(t)
	x.d[0].Lie(true)
	x.write(at(6), api.OK)
	x.waits(1, 0)
	x.off()
	x.p.Restart()
	x.read(at(6)) // the second one's
}

// P16.3

func TestReadWhereNothingStands(t *testing.T) {
	x := made(t)
	x.noRead(api.ErrNone)
	for i := range x.d {
		x.lays(i, 0, api.Sector{1})
		x.lays(i, 1, api.Sector{2})
	}
	x.noRead(api.ErrNone)
	x.d[0].Out(true)
	x.noRead(api.ErrNone)
	x.d[1].Out(true)
	x.noRead(api.ErrDown)
	x.out(false)
	x.off()
	x.noRead(api.ErrDown)
}

func TestErrorsOfReadInTheirOrder(t *testing.T) {
	x := made(t)
	x.write(at(3), api.OK)
	look := func(m *mirror.Mirror, c api.Cipher) {
		t.Helper()
		if s, e := super.Read(m, c); s != (super.Super{}) || e != api.ErrArg {
			t.Errorf("Read = %v, %v", s, e)
		}
	}
	look(nil, nil)
	look(nil, ours)
	look(x.m, nil)
	x.out(true)
	look(x.m, nil)
	x.noRead(api.ErrDown)
	// Where there is no place 0 its Read doesn't tell ErrDown.
	none := madeOf(t, 0, 4, sector.Good(ours))
	none.out(true)
	none.noRead(api.ErrNone)
	one := madeOf(t, 1, 1, sector.Good(ours))
	one.noRead(api.ErrNone)
	one.out(true)
	one.noRead(api.ErrDown)
}

func TestReadTellsTheGreatestOfAll(t *testing.T) {
	stands := [4]struct{ i, at int }{{0, 0}, {1, 0}, {0, 1}, {1, 1}}
	sizes := [][4]uint64{{0, 2, 1, 3}, {2, 0, 3, 1}, {4, 2, 3, 1}, {2, 4, 1, 3}, {8, 8, 7, 7}, {8, 8, 9, 9}, {0, 0, 1, 1}, {1 << 63, 2, math.MaxInt64, 1}, {math.MaxUint64 - 1, 0, math.MaxUint64, 1}, {0, math.MaxUint64 - 1, 1, math.MaxUint64 - 2}}
	for _, l := range sizes {
		for spoiled := range 16 {
			x := made(t)
			var want super.Super
			found := false
			for k, y := range stands {
				x.lay(y.i, at(l[k]))
				if spoiled>>k&1 == 1 {
					x.d[y.i].Rot(y.at, k*30, 4)
				} else if !found || l[k] > want.Version {
					want, found = at(l[k]), true
				}
			}
			if found {
				x.read(want)
			} else {
				x.noRead(api.ErrNone)
			}
		}
	}
}

func TestTheSuperOfNoughtsIsFound(t *testing.T) {
	x := made(t)
	x.lay(1, super.Super{})
	x.read(super.Super{})
	x.write(super.Super{}, api.OK)
	x.read(super.Super{})
}

// Of two that have one Version, which no one writer writes, the one that is looked at first is told.
func TestReadTellsTheFirstOfOneVersion(t *testing.T) {
	for _, version := range []uint64{6, 7} {
		x := made(t)
		a, b := super.Super{Version: version, Now: 1, Top: 9}, super.Super{Version: version, Now: 2, Top: 8}
		x.lay(0, a)
		x.lay(1, b)
		x.read(a)
		x.d[0].Out(true)
		x.read(b)
		x.out(false)
		x.lay(0, b)
		x.lay(1, a)
		x.read(b)
	}
}

func TestReadTellsOnlyASuperWhoseSectorThatIs(t *testing.T) {
	small := of(t, at(2))
	good := plain(9, 90, 288)
	for name, s := range map[string]api.Sector{
		"another generation":      seal(t, ours, 1, 8, good),
		"a greater generation":    seal(t, ours, 1, 11, good),
		"no generation":           seal(t, ours, 1, 0, good),
		"another place's":         seal(t, ours, 0, 9, good),
		"another cipher's":        seal(t, other{}, 1, 9, good),
		"an even Version":         seal(t, ours, 1, 10, plain(10, 90, 288)),
		"a generation like it":    seal(t, ours, 1, 9+1<<32, good),
		"fewer bytes":             seal(t, ours, 1, 9, good[:13]),
		"more bytes":              seal(t, ours, 1, 9, append(slices.Clone(good), 0)),
		"no bytes":                seal(t, ours, 1, 9, nil),
		"a Now that may not be":   seal(t, ours, 1, 9, plain(9, 1<<30+1, 288)),
		"a Now above all":         seal(t, ours, 1, 9, plain(9, math.MaxUint32, 288)),
		"the bytes without a sum": api.Sector(append(good, make([]byte, 114)...)),
		"noughts":                 {},
	} {
		for i := range 2 {
			x := madeOf(t, 4, 4, every)
			x.lays(0, 0, small)
			x.lays(i, 1, s)
			x.read(at(2))
			x.lays(1-i, 1, of(t, at(1)))
			x.read(at(2))
			x.lays(1-i, 1, of(t, at(3)))
			if got, e := super.Read(x.m, ours); got != at(3) || e != api.OK {
				t.Fatalf("%s: %v, %v", name, got, e)
			}
		}
	}
	x := madeOf(t, 4, 4, every)
	x.lays(0, 0, seal(t, ours, 0, 9, good)) // an odd Version at the place 0
	x.noRead(api.ErrNone)
}

func TestReadLooksAtNoOtherPlace(t *testing.T) {
	x := madeOf(t, 6, 6, sector.Good(ours))
	for n := 2; n < 6; n++ {
		x.lays(0, n, seal(t, ours, n, uint64(n+20), super.Encode(at(uint64(n+20)))))
		x.lays(1, n, of(t, at(uint64(n))))
	}
	x.noRead(api.ErrNone)
	x.write(at(1), api.OK)
	x.read(at(1))
}

func TestReadTellsOnlyWhatIsGood(t *testing.T) {
	x := made(t)
	for version := range uint64(4) {
		x.write(at(version), api.OK)
	}
	x.m = mirror.New(x.d[0], x.d[1], func(n int, _ api.Sector) bool { return n != 1 })
	x.read(at(2))
	x.m = mirror.New(x.d[0], x.d[1], func(n int, _ api.Sector) bool { return n > 1 })
	x.noRead(api.ErrNone)
	x.m = mirror.New(x.d[0], x.d[1], nil)
	x.noRead(api.ErrNone)
	x.again()
	x.read(at(3))
	if s, e := super.Read(x.m, other{}); s != (super.Super{}) || e != api.ErrNone {
		t.Fatalf("Read = %v, %v", s, e)
	}
}

func TestReadTellsWhatIsStale(t *testing.T) {
	for i := range 2 {
		x := made(t)
		x.lay(i, at(7))
		x.lay(1-i, at(5))
		x.d[i].Out(true)
		x.again()
		x.d[i].Out(false)
		if a, b := x.m.Stale(); a != 4*(1-i) || b != 4*i {
			t.Fatalf("stale: %d, %d", a, b)
		}
		x.read(at(7))
	}
}

func TestReadTellsWhatWaits(t *testing.T) {
	x := made(t)
	x.write(at(2), api.OK)
	x.d[1].Write(1, of(t, at(3)))
	x.read(at(3))
	x.waits(0, 1)
	x.d[1].Out(true)
	x.d[1].Out(false)
	x.read(at(2))
}

func TestReadChangesNothing(t *testing.T) {
	x := made(t)
	x.write(at(2), api.OK)
	x.d[0].Out(true)
	x.write(at(3), api.OK)
	x.d[0].Out(false)
	x.d[1].Rot(0, 0, 1)
	x.d[1].Write(2, api.Sector{7})
	before := [2][]api.Sector{x.d[0].Dump(), x.d[1].Dump()}
	x.p.Fail(0) // at the next operation, and reading is none
	for range 3 {
		x.read(at(3))
	}
	if a, b := x.m.Stale(); a != 1 || b != 0 || !x.p.On() {
		t.Fatalf("stale: %d, %d; power: %v", a, b, x.p.On())
	}
	x.waits(0, 1)
	x.stable(0, before[0]...)
	x.stable(1, before[1]...)
}

// Behind a failure

func TestTheElderOrTheNewerIsReadBehindAFailure(t *testing.T) {
	for after := range 4 {
		for kept := range 4 { // on which devices the write is kept whole
			for _, torn := range []int{0, 1, 15, 16, 17, 23, 24, 25, 38, 39, 64, 127, 128} {
				elder, newer := at(4), at(5)
				x := made(t)
				for version := range uint64(5) {
					x.write(at(version), api.OK)
				}
				x.d[0].Tear(kept&1, torn)
				x.d[1].Tear(kept>>1, torn)
				x.p.Fail(after)
				x.write(newer, api.ErrDown)
				x.noRead(api.ErrDown)
				x.p.Restart()
				x.again()
				// What differs of the two stands ahead of byte 39. Of the second device nothing waits yet where power fails at the first one's write; the first one is flushed where it fails at the second one's flush.
				first := after == 3 || kept&1 == 1 || torn >= 39
				second := after > 0 && (kept>>1 == 1 || torn >= 39)
				want := elder
				if first || second {
					want = newer
				}
				x.read(want)
				x.write(at(want.Version+1), api.OK)
				x.read(at(want.Version + 1))
			}
		}
	}
}

func TestWhatWasWrittenLastIsReadFromOneDevice(t *testing.T) {
	for i := range 2 {
		for version := range uint64(12) {
			for n := range 2 {
				for _, spoil := range []func(x *set, d *device.Device){
					func(_ *set, d *device.Device) { d.Out(true) },
					func(_ *set, d *device.Device) { d.Rot(0, 3, 1); d.Rot(1, 30, 255) },
					func(x *set, d *device.Device) { d.Rot(n, 27, 16) },
					func(x *set, _ *device.Device) { x.lay(i, at(version%2)) },
					func(x *set, _ *device.Device) { x.lays(i, n, of(t, at(7))) },
				} {
					x := made(t)
					for v := range version + 1 {
						x.write(at(v), api.OK)
					}
					spoil(x, x.d[i])
					if version < 7 && x.d[i].Dump()[1] == of(t, at(7)) {
						continue // a newer one was laid there
					}
					x.read(at(version))
					x.again()
					x.read(at(version))
				}
			}
		}
	}
}

// By chance, and against a plain writing down of all.

// plainRead tells the super that is to be read, of what each device reads at the places 0 and 1 (nil: it isn't there).
func plainRead(reads [2][]api.Sector) (best super.Super, e api.Errno) {
	e = api.ErrNone
	if reads[0] == nil && reads[1] == nil {
		return best, api.ErrDown
	}
	for n := range 2 {
		for _, l := range reads {
			if l == nil {
				continue
			}
			b := l[n][25:39]
			s := super.Super{Version: binary.BigEndian.Uint64(b), Now: int(binary.BigEndian.Uint32(b[8:])), Top: uint64(binary.BigEndian.Uint16(b[12:]))}
			sealed, _ := sector.Pack(ours, n, s.Version, b)
			if sealed == l[n] && int(s.Version%2) == n && s.Now <= 1<<30 && (e != api.OK || s.Version > best.Version) {
				best, e = s, api.OK
			}
		}
	}
	return best, e
}

// readAll tells what the device reads; nil, if it isn't there.
func readAll(d *device.Device) (l []api.Sector) {
	for n := range d.Len() {
		s, e := d.Read(n)
		if e != api.OK {
			return nil
		}
		l = append(l, s)
	}
	return l
}

// scatter lays anything at all at the places of both devices.
func scatter(r *rand.Rand, x *set) {
	for i := range x.d {
		for n := range 2 {
			gen := uint64(r.Intn(6)*2 + n)
			body := plain(gen, uint32(r.Intn(1<<30)), uint16(r.Intn(1<<16)))
			switch r.Intn(12) {
			case 0:
				continue
			case 1:
				gen++
			case 2:
				binary.BigEndian.PutUint64(body, gen^1)
			case 3:
				binary.BigEndian.PutUint32(body[8:], 1<<30+uint32(r.Intn(3)))
			case 4:
				body = body[:r.Intn(15)]
			case 5:
				gen ^= 1
				binary.BigEndian.PutUint64(body, gen)
			}
			x.lays(i, n, seal(x.t, ours, n, gen, body))
			if r.Intn(5) == 0 {
				x.d[i].Rot(n, r.Intn(api.SectorSize), byte(1+r.Intn(255)))
			}
		}
	}
}

func TestReadByChance(t *testing.T) {
	r := rand.New(rand.NewSource(161))
	for range 4000 {
		x := madeOf(t, 2, 2+r.Intn(2), []func(int, api.Sector) bool{sector.Good(ours), every}[r.Intn(2)])
		scatter(r, x)
		for i := range x.d {
			if r.Intn(4) == 0 {
				x.d[i].Out(true)
			}
		}
		x.again()
		want, e := plainRead([2][]api.Sector{readAll(x.d[0]), readAll(x.d[1])})
		if e == api.OK {
			x.read(want)
		} else {
			x.noRead(e)
		}
	}
}

// session is a pair of superblocks on two devices of one power, one of which keeps what it was told to, and the other one does what it likes.
type session struct {
	*set
	r      *rand.Rand
	keeps  int         // the device that does
	known  super.Super // what was read, or written, last
	last   super.Super // what a Write was told OK of last
	tried  map[super.Super]bool
	behind bool // a Write was told OK since power failed last: what is known is on the device that keeps it
}

func newSession(t *testing.T, r *rand.Rand) *session {
	x := &session{set: made(t), r: r, keeps: r.Intn(2), tried: map[super.Super]bool{}}
	x.next()
	return x
}

// next writes the super that follows what is known.
func (x *session) next() {
	x.t.Helper()
	s := super.Super{Version: x.known.Version + 1, Now: x.known.Now + x.r.Intn(9), Top: uint64(x.r.Intn(1 << 16))}
	switch e := super.Write(x.m, ours, s); {
	case e == api.OK:
		x.known, x.last, x.behind = s, s, true
	case e == api.ErrDown && !x.p.On():
		x.tried[s] = true
	default:
		x.t.Fatalf("Write(%v) = %v", s, e)
	}
}

// look reads: that which was written last, or one whose write was cut short behind it.
func (x *session) look() {
	x.t.Helper()
	s, e := super.Read(x.m, ours)
	if e != api.OK || s != x.last && (!x.tried[s] || s.Version < x.last.Version) {
		x.t.Fatalf("Read = %v, %v; written last: %v", s, e, x.last)
	}
	x.known = s
}

// whim lets the other device lie, rot, or drop out.
func (x *session) whim() {
	if !x.behind {
		return
	}
	d := x.d[1-x.keeps]
	switch x.r.Intn(5) {
	case 0:
		d.Lie(x.r.Intn(2) == 0)
	case 1:
		d.Rot(x.r.Intn(2), x.r.Intn(api.SectorSize), byte(1+x.r.Intn(255)))
	default:
		d.Out(x.r.Intn(2) == 0)
	}
}

// crash lets power fail somewhere in the next writes.
func (x *session) crash() {
	for _, d := range x.d {
		d.Tear(x.r.Intn(3), x.r.Intn(api.SectorSize+1))
	}
	x.p.Fail(x.r.Intn(9))
	for x.p.On() {
		x.next()
	}
	x.p.Restart()
	x.again()
	x.behind = false
	x.look()
}

func TestWhatWasWrittenLastIsReadByChance(t *testing.T) {
	r := rand.New(rand.NewSource(163))
	for range 400 {
		x := newSession(t, r)
		for range 60 {
			switch r.Intn(10) {
			case 0, 1, 2:
				x.next()
			case 3, 4, 5:
				x.whim()
			case 6:
				x.again()
			case 7:
				x.crash()
			}
			x.look()
		}
	}
}
