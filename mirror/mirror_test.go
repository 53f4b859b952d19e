package mirror_test

import (
	"math"
	"math/rand"
	"slices"
	"testing"

	"erewhile/api"
	"erewhile/device"
	"erewhile/mirror"
)

// sector is one that good says so of at the place n, and at no other one.
func sector(n, x int) api.Sector {
	return api.Sector{byte(n + 1), byte(x), byte(x >> 8), 127: byte(n + 1)}
}

// wrong is one that good says so of nowhere.
func wrong(x int) api.Sector {
	return api.Sector{0, byte(x), 9}
}

func good(n int, s api.Sector) bool {
	return s[0] == byte(n+1) && s[127] == byte(n+1)
}

func anything(int, api.Sector) bool { return true }

// far are numbers below 0 and beyond any size.
func far() []int {
	return []int{-1, -2, -128, -4096, math.MinInt32, math.MinInt, math.MinInt + 1, 4096, 4097, math.MaxInt32, 1 << 32, 1<<32 + 1, math.MaxInt - 1, math.MaxInt}
}

// set is two devices, each of a power of its own, and their mirror.
type set struct {
	t      *testing.T
	p      [2]*device.Power
	d      [2]*device.Device
	m      *mirror.Mirror
	places int
}

// made is a set of two devices with so many sectors each.
func made(t *testing.T, places int) *set {
	c := &set{t: t, places: places}
	for i := range c.d {
		c.p[i] = device.NewPower()
		c.d[i] = device.New(places, c.p[i])
	}
	c.m = mirror.New(c.d[0], c.d[1], good)
	return c
}

// onePower is a set of two devices of one power.
func onePower(t *testing.T, places int) *set {
	p := device.NewPower()
	c := &set{t: t, places: places, p: [2]*device.Power{p, p}}
	for i := range c.d {
		c.d[i] = device.New(places, p)
	}
	c.m = mirror.New(c.d[0], c.d[1], good)
	return c
}

// filled is a set at each place of which both devices have the same, flushed.
func filled(t *testing.T, places int) *set {
	c := made(t, places)
	c.fill()
	return c
}

func (c *set) fill() {
	c.t.Helper()
	for n := range c.places {
		c.write(n, sector(n, 1), api.OK)
	}
	c.flush(api.OK)
}

func (c *set) write(n int, s api.Sector, want api.Errno) {
	c.t.Helper()
	if e := c.m.Write(n, s); e != want {
		c.t.Fatalf("Write(%d) = %v, not %v", n, e, want)
	}
}

func (c *set) reads(n int, want api.Sector, wantE api.Errno) {
	c.t.Helper()
	if s, e := c.m.Read(n); s != want || e != wantE {
		c.t.Fatalf("Read(%d) = %v, %v, not %v, %v", n, s, e, want, wantE)
	}
}

func (c *set) flush(want api.Errno) {
	c.t.Helper()
	if e := c.m.Flush(); e != want {
		c.t.Fatalf("Flush() = %v, not %v", e, want)
	}
}

func (c *set) sync(want api.Errno) {
	c.t.Helper()
	if e := c.m.Sync(); e != want {
		c.t.Fatalf("Sync() = %v, not %v", e, want)
	}
}

func (c *set) heal(n, want int, wantE api.Errno) {
	c.t.Helper()
	if k, e := c.m.Heal(n); k != want || e != wantE {
		c.t.Fatalf("Heal(%d) = %d, %v, not %d, %v", n, k, e, want, wantE)
	}
}

func (c *set) choose(n int, s api.Sector, want api.Errno) {
	c.t.Helper()
	if e := c.m.Choose(n, s); e != want {
		c.t.Fatalf("Choose(%d) = %v, not %v", n, e, want)
	}
}

func (c *set) both(n int, want ...api.Sector) {
	c.t.Helper()
	if l := c.m.Both(n); !slices.Equal(l, want) {
		c.t.Fatalf("Both(%d) = %v, not %v", n, l, want)
	}
}

func (c *set) stale(a, b int) {
	c.t.Helper()
	if p, q := c.m.Stale(); p != a || q != b {
		c.t.Fatalf("Stale() = %d, %d, not %d, %d", p, q, a, b)
	}
}

// waiting looks at how many writes wait on each device.
func (c *set) waiting(a, b int) {
	c.t.Helper()
	if p, q := c.d[0].Waiting(), c.d[1].Waiting(); p != a || q != b {
		c.t.Fatalf("%d and %d writes wait, not %d and %d", p, q, a, b)
	}
}

// has looks at what a device itself reads.
func (c *set) has(i, n int, want api.Sector) {
	c.t.Helper()
	if s, e := c.d[i].Read(n); s != want || e != api.OK {
		c.t.Fatalf("device %d reads %v, %v at %d, not %v", i, s, e, n, want)
	}
}

// lays writes to a device past the mirror, and flushes it.
func (c *set) lays(i, n int, s api.Sector) {
	c.t.Helper()
	if c.d[i].Write(n, s) != api.OK || c.d[i].Flush() != api.OK {
		c.t.Fatal("the device isn't there")
	}
}

// missed lets a device miss a sector that is written there, and flushed.
func (c *set) missed(i, n int, s api.Sector) {
	c.t.Helper()
	c.d[i].Out(true)
	c.write(n, s, api.OK)
	c.flush(api.OK)
	c.d[i].Out(false)
}

// staleOfBoth lets both devices miss something at the place.
func (c *set) staleOfBoth(n int) {
	c.t.Helper()
	c.d[0].Out(true)
	c.d[1].Out(true)
	c.m = mirror.New(c.d[0], c.d[1], good)
	c.d[0].Out(false)
	c.d[1].Out(false)
	for k := range c.places {
		if k != n {
			c.write(k, sector(k, 1), api.OK)
		}
	}
	c.flush(api.OK)
	c.stale(1, 1)
}

// cut turns the power of a device off, and on again.
func (c *set) cut(i int) {
	c.t.Helper()
	c.p[i].Fail(0)
	if c.d[i].Flush() != api.ErrDown {
		c.t.Fatal("power doesn't fail")
	}
	c.p[i].Restart()
}

// off turns the power of a device off.
func (c *set) off(i int) {
	c.t.Helper()
	c.cut(i)
	c.p[i].Fail(0)
	c.d[i].Flush()
}

// P9.1

func TestPlacesAreThoseThatBothHave(t *testing.T) {
	for _, x := range []struct{ a, b, want int }{{0, 0, 0}, {0, 5, 0}, {5, 0, 0}, {1, 1, 1}, {3, 4, 3}, {4, 3, 3}, {4096, 4096, 4096}, {4096, 7, 7}, {math.MaxInt, 4095, 4095}} {
		a, b := device.New(x.a, nil), device.New(x.b, nil)
		c := &set{t: t, d: [2]*device.Device{a, b}, m: mirror.New(a, b, anything)}
		if got := c.m.Len(); got != x.want {
			t.Fatalf("New(%d, %d) has %d places", x.a, x.b, got)
		}
		c.stale(0, 0)
		for _, n := range append(far(), x.want, x.want+1) {
			if n < 0 || n >= x.want {
				c.reads(n, api.Sector{}, api.ErrRange)
				c.write(n, sector(0, 1), api.ErrRange)
				c.choose(n, sector(0, 1), api.ErrRange)
				c.heal(n, 0, api.ErrRange)
				c.both(n)
			}
		}
		c.waiting(0, 0)
		c.flush(api.OK)
		c.sync(api.OK)
		if x.want > 0 {
			c.write(x.want-1, sector(1, 1), api.OK)
			c.reads(x.want-1, sector(1, 1), api.OK)
			c.heal(x.want-1, 0, api.OK)
			c.both(x.want-1, sector(1, 1), sector(1, 1))
			c.choose(x.want-1, sector(1, 2), api.OK)
		}
	}
}

func TestRangeIsAheadOfAll(t *testing.T) {
	c := filled(t, 3)
	c.d[0].Out(true)
	c.off(1)
	for _, n := range append(far(), 3, 4) {
		c.reads(n, api.Sector{}, api.ErrRange)
		c.write(n, sector(0, 1), api.ErrRange)
		c.choose(n, sector(0, 1), api.ErrRange)
		c.heal(n, 0, api.ErrRange)
		c.both(n)
	}
	c.stale(0, 0)
	if c.m.Len() != 3 {
		t.Fatal("places went with the devices")
	}
}

func TestOfADeviceThatIsNotThereAtFirstAllIsStale(t *testing.T) {
	for k := range 9 { // of each: it is there, is out, or without power
		c := made(t, 3)
		var want [2]int
		for i, how := range []int{k % 3, k / 3} {
			switch how {
			case 1:
				c.d[i].Out(true)
			case 2:
				c.off(i)
			}
			if how != 0 {
				want[i] = 3
			}
		}
		c.m = mirror.New(c.d[0], c.d[1], good)
		c.stale(want[0], want[1])
		for i := range c.d {
			c.d[i].Out(false)
			c.p[i].Restart()
		}
		c.stale(want[0], want[1])
		if c.m.Len() != 3 {
			t.Fatal("Len")
		}
	}
}

func TestNewIsNoOperation(t *testing.T) {
	c := onePower(t, 2)
	c.p[0].Fail(0)
	c.m = mirror.New(c.d[0], c.d[1], good)
	c.m.Len()
	c.m.Stale()
	c.m.Both(0)
	c.m.Read(0)
	c.heal(0, 2, api.OK)
	c.waiting(0, 0)
	if !c.p[0].On() {
		t.Fatal("power failed")
	}
	c.stale(0, 0)
}

func TestWhatDevicesHaveIsSeen(t *testing.T) {
	a, b := device.New(2, nil), device.New(2, nil)
	a.Write(0, sector(0, 5))
	b.Write(1, sector(1, 6))
	c := &set{t: t, d: [2]*device.Device{a, b}, m: mirror.New(a, b, good)}
	c.reads(0, sector(0, 5), api.OK)
	c.reads(1, sector(1, 6), api.OK)
	c.waiting(1, 1)
}

func TestStaleCounts(t *testing.T) {
	c := filled(t, 5)
	c.stale(0, 0)
	c.missed(0, 1, sector(1, 2))
	c.stale(1, 0)
	c.missed(0, 1, sector(1, 3)) // once more, the same place
	c.stale(1, 0)
	c.missed(0, 4, sector(4, 2))
	c.missed(1, 2, sector(2, 2))
	c.stale(2, 1)
	c.missed(1, 1, sector(1, 4)) // the first one has it now
	c.stale(1, 2)
	c.write(4, sector(4, 3), api.OK)
	c.stale(0, 2)
}

// P9.2

func TestReadIsOfTheFirstThatIsRight(t *testing.T) {
	first, second := sector(2, 11), sector(2, 22)
	type side struct{ out, stale, good bool }
	for k := range 64 {
		sides := [2]side{{k&1 != 0, k&2 != 0, k&4 != 0}, {k&8 != 0, k&16 != 0, k&32 != 0}}
		c := made(t, 4)
		for i, x := range sides { // the mirror is made while those that are to be stale are out
			c.d[i].Out(x.stale)
		}
		c.m = mirror.New(c.d[0], c.d[1], good)
		for i, x := range sides {
			c.d[i].Out(false)
			s := wrong(i)
			if x.good {
				s = []api.Sector{first, second}[i]
			}
			c.lays(i, 2, s)
			c.d[i].Out(x.out)
		}
		right := func(i int) bool { return !sides[i].out && !sides[i].stale && sides[i].good }
		switch {
		case right(0):
			c.reads(2, first, api.OK)
		case right(1):
			c.reads(2, second, api.OK)
		case sides[0].out && sides[1].out:
			c.reads(2, api.Sector{}, api.ErrDown)
		default:
			c.reads(2, api.Sector{}, api.ErrLost)
		}
	}
}

func TestReadIsOfWhatWaits(t *testing.T) {
	c := filled(t, 2)
	c.write(1, sector(1, 7), api.OK)
	c.reads(1, sector(1, 7), api.OK)
	c.write(1, wrong(1), api.OK)
	c.reads(1, api.Sector{}, api.ErrLost)
	c.d[0].Out(true) // what waited there is lost
	c.d[0].Out(false)
	c.reads(1, sector(1, 1), api.OK)
	c.reads(0, sector(0, 1), api.OK)
}

func TestGoodIsToldThePlace(t *testing.T) {
	c := filled(t, 3)
	c.lays(0, 1, sector(2, 1)) // right at another place alone
	c.reads(1, sector(1, 1), api.OK)
	c.lays(1, 1, sector(0, 1))
	c.reads(1, api.Sector{}, api.ErrLost)
}

func TestReadWithoutPower(t *testing.T) {
	c := filled(t, 2)
	c.off(0)
	c.reads(1, sector(1, 1), api.OK)
	c.off(1)
	c.reads(1, api.Sector{}, api.ErrDown)
	c.p[0].Restart()
	c.reads(1, sector(1, 1), api.OK)
	c.d[0].Out(true)
	c.reads(1, api.Sector{}, api.ErrDown)
	c.p[1].Restart()
	c.reads(1, sector(1, 1), api.OK)
}

func TestReadChangesNothing(t *testing.T) {
	c := filled(t, 2)
	c.missed(1, 0, sector(0, 2))
	c.d[0].Rot(1, 0, 255)
	for range 3 {
		c.reads(0, sector(0, 2), api.OK)
		c.reads(1, sector(1, 1), api.OK)
		c.both(0, sector(0, 2), sector(0, 1))
		c.stale(0, 1)
		c.waiting(0, 0)
	}
}

func TestNilGoodSaysSoOfNone(t *testing.T) {
	c := made(t, 2)
	c.m = mirror.New(c.d[0], c.d[1], nil)
	c.write(1, sector(1, 1), api.OK)
	c.flush(api.OK)
	c.has(0, 1, sector(1, 1))
	c.has(1, 1, sector(1, 1))
	c.reads(1, api.Sector{}, api.ErrLost)
	c.both(1)
	c.heal(1, 2, api.OK)
	c.d[0].Out(true)
	c.write(1, sector(1, 2), api.OK)
	c.d[0].Out(false)
	c.sync(api.ErrLost)
	c.stale(1, 0)
	c.choose(1, sector(1, 2), api.OK)
	c.sync(api.OK)
	c.has(0, 1, sector(1, 2))
	c.d[0].Out(true)
	c.d[1].Out(true)
	c.reads(1, api.Sector{}, api.ErrDown)
}

func TestWriteWritesEachThatIsThere(t *testing.T) {
	c := filled(t, 3)
	c.write(0, sector(0, 2), api.OK)
	c.waiting(1, 1)
	c.has(0, 0, sector(0, 2))
	c.has(1, 0, sector(0, 2))
	c.stale(0, 0)
	c.flush(api.OK)
	c.waiting(0, 0)
	for i := range c.d {
		c.d[i].Out(true)
		c.write(1, sector(1, 3+i), api.OK)
		c.has(1-i, 1, sector(1, 3+i))
		c.flush(api.OK)
		c.d[i].Out(false)
		c.stale(1-i, i)
		c.reads(1, sector(1, 3+i), api.OK)
		c.write(1, sector(1, 5), api.OK)
		c.stale(0, 0)
		c.flush(api.OK)
		c.has(i, 1, sector(1, 5))
	}
}

func TestWriteWithNeitherChangesNothing(t *testing.T) {
	c := filled(t, 3)
	c.missed(0, 1, sector(1, 2))
	c.missed(1, 2, sector(2, 2))
	c.d[0].Out(true)
	c.off(1)
	for n := range 3 {
		c.write(n, sector(n, 9), api.ErrDown)
	}
	c.flush(api.ErrDown)
	c.stale(1, 1)
	c.d[0].Out(false)
	c.p[1].Restart()
	c.reads(0, sector(0, 1), api.OK)
	c.reads(1, sector(1, 2), api.OK)
	c.reads(2, sector(2, 2), api.OK)
	c.waiting(0, 0)
}

func TestWriteIsNotAskedOfGood(t *testing.T) {
	c := filled(t, 2)
	c.write(1, wrong(3), api.OK)
	c.flush(api.OK)
	c.has(0, 1, wrong(3))
	c.has(1, 1, wrong(3))
	c.stale(0, 0)
	c.reads(1, api.Sector{}, api.ErrLost)
}

func TestPowerThatFailsAtAWrite(t *testing.T) {
	for i := range 2 { // of one of two powers: its device missed that write, the other one has it
		c := filled(t, 2)
		c.p[i].Fail(0)
		c.write(1, sector(1, 2), api.OK)
		c.flush(api.OK)
		c.p[i].Restart()
		c.stale(1-i, i)
		c.has(i, 1, sector(1, 1))
		c.reads(1, sector(1, 2), api.OK)
	}
	c := onePower(t, 2)
	c.fill()
	c.p[0].Fail(0)
	c.write(1, sector(1, 2), api.ErrDown) // at the first device's
	c.p[0].Restart()
	c.stale(0, 0)
	c.reads(1, sector(1, 1), api.OK)
	c.d[0].Tear(1, 0)
	c.p[0].Fail(1)
	c.write(1, sector(1, 2), api.OK) // at the second one's: the first one was written
	c.p[0].Restart()
	c.stale(0, 1)
	c.reads(1, sector(1, 2), api.OK)
	c.has(1, 1, sector(1, 1))
}

func TestFlushFlushesEachThatIsThere(t *testing.T) {
	c := filled(t, 2)
	for k, want := range []api.Errno{api.OK, api.OK, api.OK, api.ErrDown} {
		c.write(0, sector(0, k+2), api.OK)
		c.d[0].Out(k&1 != 0)
		c.d[1].Out(k&2 != 0)
		c.flush(want)
		c.waiting(0, 0)
		for i := range c.d {
			if k>>i&1 == 0 && c.d[i].Dump()[0] != sector(0, k+2) {
				t.Fatal("it isn't stable")
			}
			c.d[i].Out(false)
		}
		c.stale(0, 0) // both were written
	}
}

func TestPowerThatFailsAtAFlush(t *testing.T) {
	for i := range 2 { // one of two powers
		c := filled(t, 2)
		c.write(0, sector(0, 2), api.OK)
		c.p[i].Fail(0)
		c.flush(api.ErrDown)
		if c.d[i].Dump()[0] != sector(0, 1) || c.d[1-i].Dump()[0] != sector(0, 2) {
			t.Fatal("the other one isn't flushed")
		}
		c.flush(api.OK) // it isn't there any more
		c.p[i].Restart()
		c.flush(api.OK)
	}
	for k, want := range []api.Errno{api.ErrDown, api.ErrDown, api.OK} {
		c := onePower(t, 1)
		c.fill()
		c.write(0, sector(0, 2), api.OK)
		c.p[0].Fail(k)
		c.flush(want)
		for i := range c.d {
			old := sector(0, 1)
			if i < k {
				old = sector(0, 2)
			}
			if c.d[i].Dump()[0] != old {
				t.Fatalf("%d operations went well, and device %d has %v", k, i, c.d[i].Dump()[0])
			}
		}
		if c.p[0].On() != (want == api.OK) {
			t.Fatal("On")
		}
	}
}

func TestFlushTakesLiesForTrue(t *testing.T) {
	c := filled(t, 1)
	c.d[0].Lie(true)
	c.write(0, sector(0, 2), api.OK)
	c.flush(api.OK)
	c.waiting(1, 0)
	c.stale(0, 0)
}

// P9.3

func TestSyncAsksForBoth(t *testing.T) {
	for k := 1; k < 4; k++ {
		c := filled(t, 3)
		c.missed(0, 0, sector(0, 2))
		c.missed(1, 1, sector(1, 2))
		c.write(2, sector(2, 3), api.OK)
		c.d[0].Out(k&1 != 0)
		c.d[1].Out(k&2 != 0)
		p, q := c.d[0].Waiting(), c.d[1].Waiting()
		c.sync(api.ErrDown)
		c.waiting(p, q) // nothing is written, nothing flushed
		c.stale(1, 1)
	}
}

func TestSyncWritesWhatWasMissed(t *testing.T) {
	c := filled(t, 6)
	for n := range 3 {
		c.missed(0, n, sector(n, 2))
		c.missed(1, n+3, sector(n+3, 2))
	}
	c.stale(3, 3)
	c.sync(api.OK)
	c.stale(0, 0)
	c.waiting(0, 0)
	for n := range 6 {
		c.heal(n, 0, api.OK)
		for i := range c.d {
			if c.d[i].Dump()[n] != sector(n, 2) {
				t.Fatal("it isn't stable")
			}
		}
	}
}

func TestSyncFlushesWhateverIsStale(t *testing.T) {
	c := filled(t, 2)
	c.write(1, sector(1, 2), api.OK)
	c.sync(api.OK)
	c.waiting(0, 0)
	c.staleOfBoth(0)
	c.write(1, sector(1, 3), api.OK)
	c.sync(api.ErrLost)
	c.waiting(0, 0)
	if c.d[0].Dump()[1] != sector(1, 3) || c.d[1].Dump()[1] != sector(1, 3) {
		t.Fatal("it isn't stable")
	}
}

func TestSyncTakesNothingWrong(t *testing.T) {
	for i := range 2 {
		c := filled(t, 3)
		for n := range 3 {
			c.missed(i, n, sector(n, 2))
		}
		c.d[1-i].Rot(1, 0, 1)
		c.sync(api.ErrLost)
		want := [2]int{}
		want[i] = 1
		c.stale(want[0], want[1])
		c.has(i, 0, sector(0, 2))
		c.has(i, 1, sector(1, 1)) // still stale, and never read
		c.has(i, 2, sector(2, 2))
		c.reads(1, api.Sector{}, api.ErrLost)
		c.sync(api.ErrLost)
		c.d[1-i].Rot(1, 0, 1)
		c.reads(1, sector(1, 2), api.OK)
		c.sync(api.OK)
		c.has(i, 1, sector(1, 2))
		c.stale(0, 0)
	}
}

func TestSyncTakesNothingStale(t *testing.T) {
	c := filled(t, 3)
	c.staleOfBoth(1)
	c.has(0, 1, sector(1, 1)) // good says so of it
	c.sync(api.ErrLost)
	c.stale(1, 1)
	c.reads(1, api.Sector{}, api.ErrLost)
	c.write(1, sector(1, 2), api.OK)
	c.stale(0, 0)
	c.sync(api.OK)
}

func TestSyncLeavesWhatIsNotStale(t *testing.T) {
	c := filled(t, 3)
	c.d[0].Rot(0, 0, 1)
	c.lays(1, 1, sector(1, 7))
	c.d[1].Rot(2, 5, 1)
	c.sync(api.OK)
	c.both(0, sector(0, 1))
	c.both(1, sector(1, 1), sector(1, 7))
	if l := c.m.Both(2); len(l) != 2 || l[0] == l[1] {
		t.Fatal("what isn't stale was written")
	}
}

// behindSync tells of places 0 and 3, that the first device missed, and 1 and 2, that the second one missed, which have what was missed.
func behindSync(c *set) (l []int) {
	for n, i := range []int{0, 1, 1, 0} {
		if c.d[i].Dump()[n] == sector(n, 2) {
			l = append(l, n)
		}
	}
	return l
}

func TestSyncWritesInItsOrder(t *testing.T) {
	for k := range 7 {
		c := onePower(t, 4)
		c.fill()
		for n, i := range []int{0, 1, 1, 0} {
			c.missed(i, n, sector(n, 2))
		}
		c.d[0].Tear(9, 0)
		c.d[1].Tear(9, 0)
		c.p[0].Fail(k) // 0, 3 of the first one, 1, 2 of the second one, and two flushes
		want := api.ErrDown
		if k == 6 {
			want = api.OK
		}
		c.sync(want)
		if got, order := behindSync(c), [][]int{{0}, {0, 3}, {0, 1, 3}, {0, 1, 2, 3}}[min(k, 3)]; !slices.Equal(got, order) {
			t.Fatalf("power fails behind %d: %v, not %v", k, got, order)
		}
		c.p[0].Restart()
		// What was told to be written isn't stale any more; that at which power failed is.
		c.stale(2-min(k, 2), 2-max(0, min(k-2, 2)))
	}
}

func TestSyncOfPowerThatFailsAtOneDevice(t *testing.T) {
	for i := range 2 {
		for k := range 3 {
			c := filled(t, 2)
			c.missed(i, 0, sector(0, 2))
			c.missed(i, 1, sector(1, 2))
			c.p[i].Fail(k)
			c.sync(api.ErrDown)
			c.p[i].Restart()
			want := [2]int{}
			want[i] = 2 - k
			c.stale(want[0], want[1])
		}
	}
}

// P9.4

func TestHealAsksForBoth(t *testing.T) {
	for k := 1; k < 4; k++ {
		c := filled(t, 2)
		c.d[0].Rot(0, 0, 1)
		c.d[0].Out(k&1 != 0)
		c.d[1].Out(k&2 != 0)
		c.heal(0, 0, api.ErrDown)
		c.heal(1, 0, api.ErrDown)
		c.waiting(0, 0)
		c.stale(0, 0)
	}
	c := filled(t, 2)
	c.off(1)
	c.heal(0, 0, api.ErrDown)
}

func TestEachHeal(t *testing.T) {
	first, second := sector(1, 11), sector(1, 22)
	type side struct{ stale, good bool }
	for k := range 32 {
		sides, alike := [2]side{{k&1 != 0, k&2 != 0}, {k&4 != 0, k&8 != 0}}, k&16 != 0
		c := made(t, 3)
		for i, x := range sides {
			c.d[i].Out(x.stale)
		}
		c.m = mirror.New(c.d[0], c.d[1], good)
		has := [2]api.Sector{first, second}
		if alike {
			has[1] = first
		}
		for i, x := range sides {
			c.d[i].Out(false)
			if !x.good {
				has[i] = wrong(5)
			}
			c.lays(i, 1, has[i])
		}
		want := [2]int{}
		for i, x := range sides {
			if x.stale {
				want[i] = 3
			}
		}
		right := func(i int) bool { return !sides[i].stale && sides[i].good }
		switch {
		case !right(0) && !right(1):
			c.heal(1, 2, api.OK)
			c.waiting(0, 0)
		case right(0) && right(1) && has[0] == has[1]:
			c.heal(1, 0, api.OK)
			c.waiting(0, 0)
		case right(0):
			c.heal(1, 1, api.OK)
			c.waiting(0, 1)
			has[1], want[1] = has[0], max(want[1]-1, 0)
		default:
			c.heal(1, 1, api.OK)
			c.waiting(1, 0)
			has[0], want[0] = has[1], max(want[0]-1, 0)
		}
		c.has(0, 1, has[0])
		c.has(1, 1, has[1])
		c.stale(want[0], want[1])
	}
}

func TestNoughtsMayBeGood(t *testing.T) {
	for i := range 2 {
		c := made(t, 2)
		c.d[i].Out(true)
		c.m = mirror.New(c.d[0], c.d[1], anything)
		c.d[i].Out(false)
		c.heal(0, 1, api.OK) // of one of them it is stale
		c.heal(0, 0, api.OK)
		c.waiting(1-i, i)
		c.stale(1-i, i)
		c.reads(0, api.Sector{}, api.OK)
		c.both(0, api.Sector{}, api.Sector{})
	}
}

func TestHealIsOfOnePlace(t *testing.T) {
	c := filled(t, 4)
	c.d[0].Rot(3, 0, 1)
	c.d[0].Rot(2, 0, 1)
	c.d[1].Rot(1, 0, 1)
	c.reads(3, sector(3, 1), api.OK)
	c.heal(3, 1, api.OK) // the example
	c.heal(3, 0, api.OK)
	c.waiting(1, 0)
	c.both(2, sector(2, 1))
	c.both(1, sector(1, 1))
	c.both(3, sector(3, 1), sector(3, 1))
	c.d[0].Out(true) // it wasn't flushed
	c.d[0].Out(false)
	c.both(3, sector(3, 1))
	c.heal(3, 1, api.OK)
	c.flush(api.OK)
	if c.d[0].Dump()[3] != sector(3, 1) {
		t.Fatal("it isn't stable")
	}
}

func TestPowerThatFailsAtAHeal(t *testing.T) {
	for i := range 2 {
		c := filled(t, 2)
		c.missed(i, 1, sector(1, 2))
		c.p[i].Fail(0)
		c.heal(1, 0, api.ErrDown)
		c.p[i].Restart()
		c.stale(1-i, i)
		c.reads(1, sector(1, 2), api.OK)
		c.heal(1, 1, api.OK)
		c.stale(0, 0)
		c.heal(1, 0, api.OK)
	}
}

func TestBothTellsStaleOnesToo(t *testing.T) {
	c := filled(t, 3)
	c.missed(0, 1, sector(1, 2))
	c.both(1, sector(1, 1), sector(1, 2))
	c.missed(1, 1, sector(1, 3))
	c.both(1, sector(1, 3), sector(1, 2))
	c.staleOfBoth(1)
	c.both(1, sector(1, 3), sector(1, 2))
	c.write(0, sector(0, 9), api.OK) // what waits
	c.both(0, sector(0, 9), sector(0, 9))
	c.d[0].Rot(1, 0, 1)
	c.both(1, sector(1, 2))
	c.d[1].Rot(1, 0, 1)
	c.both(1)
	c.d[0].Rot(1, 0, 1)
	c.both(1, sector(1, 3))
	c.d[0].Out(true)
	c.both(1)
	c.both(2, sector(2, 1))
	c.off(1)
	c.both(2)
	c.d[0].Out(false)
	c.both(2, sector(2, 1))
}

func TestBothIsNewMemory(t *testing.T) {
	c := filled(t, 2)
	l, again := c.m.Both(1), c.m.Both(1)
	l[0][0]++
	l[1] = wrong(1)
	_ = append(l[:1], wrong(2))
	if again[0] != sector(1, 1) || again[1] != sector(1, 1) {
		t.Fatal("one Both writes over another one")
	}
	c.both(1, sector(1, 1), sector(1, 1))
}

func TestChooseWritesWhatReadsAnother(t *testing.T) {
	c := filled(t, 3)
	c.choose(1, sector(1, 1), api.OK) // both read it
	c.waiting(0, 0)
	for i := range c.d {
		c.lays(i, 1, sector(1, 5))
		c.choose(1, sector(1, 1), api.OK)
		c.waiting(1-i, i)
		c.flush(api.OK)
		c.both(1, sector(1, 1), sector(1, 1))
	}
	c.choose(1, sector(1, 6), api.OK)
	c.waiting(1, 1)
	c.choose(1, sector(1, 6), api.OK) // both read it, though it waits
	c.waiting(1, 1)
	c.choose(1, wrong(4), api.OK) // good isn't asked
	c.waiting(2, 2)
	c.flush(api.OK)
	c.has(0, 1, wrong(4))
	c.has(1, 1, wrong(4))
	c.stale(0, 0)
	c.reads(0, sector(0, 1), api.OK)
	c.reads(2, sector(2, 1), api.OK)
}

func TestChooseAndStalePlaces(t *testing.T) {
	c := filled(t, 3)
	c.staleOfBoth(1)
	c.choose(1, sector(1, 1), api.OK) // both read it: neither is written, and it isn't stale
	c.waiting(0, 0)
	c.stale(0, 0)
	c.reads(1, sector(1, 1), api.OK)
	for i := range c.d {
		want := [2]int{}
		want[i] = 1
		c.d[i].Out(true)
		c.choose(2, sector(2, 1), api.OK) // the other one reads it, but of this one it is stale
		c.waiting(0, 0)
		c.stale(want[0], want[1])
		c.choose(2, sector(2, 3), api.OK)
		c.flush(api.OK)
		c.stale(want[0], want[1])
		c.d[i].Out(false)
		c.reads(2, sector(2, 3), api.OK)
		c.choose(2, sector(2, 1), api.OK) // this one reads it, the other one is written
		c.waiting(i, 1-i)
		c.stale(0, 0)
		c.flush(api.OK)
	}
}

func TestChooseOfNoughts(t *testing.T) {
	for i := range 2 { // one that isn't there doesn't read noughts
		c := made(t, 2)
		want := [2]int{}
		want[i] = 1
		c.d[i].Out(true)
		c.choose(0, api.Sector{}, api.OK)
		c.waiting(0, 0)
		c.stale(want[0], want[1])
		c.d[1-i].Out(true)
		c.choose(1, api.Sector{}, api.ErrDown)
		c.stale(want[0], want[1])
	}
}

func TestChooseWithNeitherChangesNothing(t *testing.T) {
	c := filled(t, 3)
	c.missed(0, 1, sector(1, 2))
	c.missed(1, 2, sector(2, 2))
	c.off(0)
	c.d[1].Out(true)
	for n := range 3 {
		c.choose(n, sector(n, 1), api.ErrDown)
		c.choose(n, sector(n, 9), api.ErrDown)
	}
	c.stale(1, 1)
	c.p[0].Restart()
	c.d[1].Out(false)
	c.waiting(0, 0)
	c.reads(0, sector(0, 1), api.OK)
	c.reads(1, sector(1, 2), api.OK)
	c.reads(2, sector(2, 2), api.OK)
}

func TestPowerThatFailsAtAChoose(t *testing.T) {
	for i := range 2 {
		c := filled(t, 2)
		c.p[i].Fail(0)
		c.choose(1, sector(1, 2), api.OK)
		c.p[i].Restart()
		c.stale(1-i, i)
		c.reads(1, sector(1, 2), api.OK)
	}
	c := onePower(t, 2)
	c.fill()
	c.p[0].Fail(0)
	c.choose(1, sector(1, 2), api.ErrDown)
	c.p[0].Restart()
	c.stale(0, 0)
	c.p[0].Fail(0)
	c.choose(1, sector(1, 1), api.OK) // no operation
	c.p[0].Fail(1)
	c.choose(1, sector(1, 2), api.OK)
	c.p[0].Restart()
	c.stale(0, 1)
}

func TestNothingElseFlushes(t *testing.T) {
	c := filled(t, 3)
	c.write(0, sector(0, 2), api.OK)
	c.choose(1, sector(1, 2), api.OK)
	c.d[1].Rot(2, 0, 1)
	c.heal(2, 1, api.OK)
	c.both(0, sector(0, 2), sector(0, 2))
	c.reads(0, sector(0, 2), api.OK)
	c.stale(0, 0)
	c.waiting(2, 3)
	if l := c.d[0].Dump(); l[0] != sector(0, 1) || l[1] != sector(1, 1) {
		t.Fatal("it was flushed")
	}
}

// P9.5

func TestOneThatKeepsItIsEnough(t *testing.T) {
	for keeps := range 2 {
		r := rand.New(rand.NewSource(int64(95 + keeps)))
		c := filled(t, 4)
		d, p := c.d[1-keeps], c.p[1-keeps]
		last := []int{1, 1, 1, 1}
		for k := range 2000 {
			switch r.Intn(9) {
			case 0:
				d.Out(true)
			case 1:
				d.Out(false)
			case 2: // of a byte that good looks at
				d.Rot(r.Intn(4), 127*r.Intn(2), byte(1+r.Intn(255)))
			case 3: // or, if it is out, nothing
				p.Fail(0)
				d.Flush()
				p.Fail(-1)
			case 4:
				p.Restart()
			case 5:
				c.m.Sync()
			case 6:
				c.m.Heal(r.Intn(4))
				c.flush(api.OK)
			default:
				n := r.Intn(4)
				last[n] = k
				c.write(n, sector(n, k), api.OK)
				c.flush(api.OK)
			}
			for n, x := range last {
				c.reads(n, sector(n, x), api.OK)
			}
		}
	}
}

func TestWhatGoodDoesNotSaySoOfIsNeverRead(t *testing.T) {
	c := filled(t, 2)
	asked := 0
	c.m = mirror.New(c.d[0], c.d[1], func(n int, s api.Sector) bool {
		asked++
		return n == 1 && s == sector(1, 4)
	})
	for n := range 2 {
		c.reads(n, api.Sector{}, api.ErrLost)
		c.both(n)
		c.heal(n, 2, api.OK)
	}
	if asked == 0 {
		t.Fatal("good isn't asked")
	}
	c.lays(1, 1, sector(1, 4))
	c.reads(1, sector(1, 4), api.OK)
	c.both(1, sector(1, 4))
	c.heal(1, 1, api.OK)
	c.both(1, sector(1, 4), sector(1, 4))
}

func TestNilMirror(t *testing.T) {
	c := &set{t: t}
	for _, n := range append(far(), 0, 1) {
		c.reads(n, api.Sector{}, api.ErrRange)
		c.write(n, sector(0, 1), api.ErrRange)
		c.choose(n, sector(0, 1), api.ErrRange)
		c.heal(n, 0, api.ErrRange)
		c.both(n)
	}
	if c.m.Len() != 0 {
		t.Fatal("Len")
	}
	c.stale(0, 0)
	c.flush(api.ErrDown)
	c.sync(api.ErrDown)
}

func TestNilDevices(t *testing.T) {
	for k := range 3 {
		c := &set{t: t}
		want := api.ErrDown
		if k > 0 {
			c.d[k-1], want = device.New(3, nil), api.OK
		}
		c.m = mirror.New(c.d[0], c.d[1], anything)
		if c.m == nil || c.m.Len() != 0 {
			t.Fatal("places that both have")
		}
		c.stale(0, 0)
		c.reads(0, api.Sector{}, api.ErrRange)
		c.write(0, sector(0, 1), api.ErrRange)
		c.choose(0, sector(0, 1), api.ErrRange)
		c.heal(0, 0, api.ErrRange)
		c.both(0)
		c.sync(api.ErrDown)
		if k > 0 {
			c.d[k-1].Write(2, sector(2, 1))
		}
		c.flush(want)
		c.waiting(0, 0)
		if k > 0 {
			c.d[k-1].Out(true)
			c.flush(api.ErrDown)
		}
	}
}

func TestOneDeviceTwice(t *testing.T) {
	d := device.New(2, nil)
	c := &set{t: t, d: [2]*device.Device{d, d}, m: mirror.New(d, d, good)}
	c.write(1, sector(1, 1), api.OK)
	c.waiting(2, 2)
	c.flush(api.OK)
	c.both(1, sector(1, 1), sector(1, 1))
	c.heal(1, 0, api.OK)
	c.choose(1, sector(1, 2), api.OK)
	c.waiting(1, 1)
	c.sync(api.OK)
	d.Out(true)
	c.write(1, sector(1, 3), api.ErrDown)
	c.sync(api.ErrDown)
	c.stale(0, 0)
}

func TestTwoMirrorsOfTheSameDevices(t *testing.T) {
	c := filled(t, 2)
	other := &set{t: t, d: c.d, m: mirror.New(c.d[0], c.d[1], good)}
	c.missed(1, 0, sector(0, 2))
	c.stale(0, 1)
	other.stale(0, 0) // it knows nothing of that
	other.both(0, sector(0, 2), sector(0, 1))
	other.heal(0, 1, api.OK)
	c.stale(0, 1)
	c.sync(api.OK)
}

func TestWhatIsHandedInIsNotKept(t *testing.T) {
	c := filled(t, 1)
	s := sector(0, 5)
	c.write(0, s, api.OK)
	s[1]++
	got, _ := c.m.Read(0)
	got[1]++
	c.reads(0, sector(0, 5), api.OK)
}

// All of it, against a second, plain writing.

// plain is a mirror of two devices that are told the same as the true one's.
type plain struct {
	d      [2]*device.Device
	missed [2]map[int]bool
	places int
}

func (x *plain) down(i int) bool {
	_, e := x.d[i].Read(0)
	return e == api.ErrDown
}

func (x *plain) fine(i, n int) (api.Sector, bool) {
	s, e := x.d[i].Read(n)
	return s, e == api.OK && !x.missed[i][n] && good(n, s)
}

func (x *plain) read(n int) (api.Sector, api.Errno) {
	if n < 0 || n >= x.places {
		return api.Sector{}, api.ErrRange
	}
	if s, ok := x.fine(0, n); ok {
		return s, api.OK
	}
	if s, ok := x.fine(1, n); ok {
		return s, api.OK
	}
	if x.down(0) && x.down(1) {
		return api.Sector{}, api.ErrDown
	}
	return api.Sector{}, api.ErrLost
}

func (x *plain) write(n int, s api.Sector) api.Errno {
	if n < 0 || n >= x.places {
		return api.ErrRange
	}
	a, b := x.d[0].Write(n, s), x.d[1].Write(n, s)
	return x.after(n, a, b)
}

func (x *plain) after(n int, a, b api.Errno) api.Errno {
	if a != api.OK && b != api.OK {
		return api.ErrDown
	}
	delete(x.missed[0], n)
	delete(x.missed[1], n)
	if a != api.OK {
		x.missed[0][n] = true
	}
	if b != api.OK {
		x.missed[1][n] = true
	}
	return api.OK
}

func (x *plain) flush() api.Errno {
	noA, noB := x.down(0), x.down(1)
	a, b := x.d[0].Flush(), x.d[1].Flush()
	if noA && noB || !noA && a != api.OK || !noB && b != api.OK {
		return api.ErrDown
	}
	return api.OK
}

func (x *plain) sync() api.Errno {
	if x.down(0) || x.down(1) {
		return api.ErrDown
	}
	for i := range 2 {
		for n := 0; n < x.places; n++ {
			s, ok := x.fine(1-i, n)
			if x.missed[i][n] && ok && x.d[i].Write(n, s) == api.OK {
				delete(x.missed[i], n)
			}
		}
	}
	a, b := x.d[0].Flush(), x.d[1].Flush()
	if a != api.OK || b != api.OK {
		return api.ErrDown
	}
	if len(x.missed[0])+len(x.missed[1]) > 0 {
		return api.ErrLost
	}
	return api.OK
}

func (x *plain) heal(n int) (int, api.Errno) {
	if n < 0 || n >= x.places {
		return 0, api.ErrRange
	}
	if x.down(0) || x.down(1) {
		return 0, api.ErrDown
	}
	a, first := x.fine(0, n)
	b, second := x.fine(1, n)
	if !first && !second {
		return 2, api.OK
	}
	if first && second && a == b {
		return 0, api.OK
	}
	to, s := 1, a
	if !first {
		to, s = 0, b
	}
	if x.d[to].Write(n, s) != api.OK {
		return 0, api.ErrDown
	}
	delete(x.missed[to], n)
	return 1, api.OK
}

func (x *plain) both(n int) (l []api.Sector) {
	if n < 0 || n >= x.places {
		return nil
	}
	for i := range 2 {
		if s, e := x.d[i].Read(n); e == api.OK && good(n, s) {
			l = append(l, s)
		}
	}
	return l
}

func (x *plain) choose(n int, s api.Sector) api.Errno {
	if n < 0 || n >= x.places {
		return api.ErrRange
	}
	var told [2]api.Errno
	for i := range 2 {
		old, e := x.d[i].Read(n)
		if e == api.OK && old != s {
			e = x.d[i].Write(n, s)
		}
		told[i] = e
	}
	return x.after(n, told[0], told[1])
}

// session is a mirror and its plain writing, with the devices and powers of both.
type session struct {
	*set
	x *plain
	q [2]*device.Power
}

// begin makes a session of devices of one power, or of two, some of them out at first.
func begin(t *testing.T, r *rand.Rand) *session {
	c := &session{set: &set{t: t}, x: &plain{missed: [2]map[int]bool{{}, {}}}}
	c.p, c.q = [2]*device.Power{device.NewPower(), device.NewPower()}, [2]*device.Power{device.NewPower(), device.NewPower()}
	if r.Intn(2) == 0 {
		c.p[1], c.q[1] = c.p[0], c.q[0]
	}
	var lens [2]int
	for i := range c.d {
		lens[i] = r.Intn(6)
		c.d[i], c.x.d[i] = device.New(lens[i], c.p[i]), device.New(lens[i], c.q[i])
		out := r.Intn(4) == 0
		c.d[i].Out(out)
		c.x.d[i].Out(out)
	}
	c.x.places, c.places = min(lens[0], lens[1]), min(lens[0], lens[1])
	for i := range c.d {
		for n := 0; n < c.places && c.x.down(i); n++ {
			c.x.missed[i][n] = true
		}
	}
	c.m = mirror.New(c.d[0], c.d[1], good)
	return c
}

// disturb does something to one of the devices, or its power.
func (c *session) disturb(r *rand.Rand) {
	i := r.Intn(2)
	switch r.Intn(8) {
	case 0, 1:
		out := r.Intn(3) == 0
		c.d[i].Out(out)
		c.x.d[i].Out(out)
	case 2:
		n, at, mask := r.Intn(5), []int{0, 1, 127}[r.Intn(3)], byte(1+r.Intn(3))
		c.d[i].Rot(n, at, mask)
		c.x.d[i].Rot(n, at, mask)
	case 3:
		kept, bytes := r.Intn(4), r.Intn(129)
		c.d[i].Tear(kept, bytes)
		c.x.d[i].Tear(kept, bytes)
	case 4:
		lies := r.Intn(2) == 0
		c.d[i].Lie(lies)
		c.x.d[i].Lie(lies)
	case 5:
		after := r.Intn(8)
		c.p[i].Fail(after)
		c.q[i].Fail(after)
	default:
		c.p[i].Restart()
		c.q[i].Restart()
	}
}

// step does one thing, by chance, to both.
func (c *session) step(r *rand.Rand) {
	c.t.Helper()
	n := r.Intn(c.places+2) - 1
	s := sector(n, r.Intn(3))
	switch r.Intn(12) {
	case 0:
		s = wrong(r.Intn(2))
	case 1:
		s = api.Sector{}
	}
	switch k := r.Intn(20); {
	case k < 6:
		c.write(n, s, c.x.write(n, s))
	case k < 8:
		c.flush(c.x.flush())
	case k < 10:
		c.sync(c.x.sync())
	case k < 12:
		told, e := c.x.heal(n)
		c.heal(n, told, e)
	case k < 14:
		c.choose(n, s, c.x.choose(n, s))
	default:
		c.disturb(r)
	}
}

// alike looks at all that both tell.
func (c *session) alike() {
	c.t.Helper()
	for n := -1; n <= c.places; n++ {
		s, e := c.x.read(n)
		c.reads(n, s, e)
		c.both(n, c.x.both(n)...)
	}
	c.stale(len(c.x.missed[0]), len(c.x.missed[1]))
	for i := range c.d {
		if !slices.Equal(c.d[i].Dump(), c.x.d[i].Dump()) {
			c.t.Fatalf("device %d has something else", i)
		}
		if c.p[i].On() != c.q[i].On() {
			c.t.Fatal("power is on, or isn't")
		}
	}
	c.waiting(c.x.d[0].Waiting(), c.x.d[1].Waiting())
	if c.m.Len() != c.places {
		c.t.Fatalf("%d places", c.m.Len())
	}
}

func TestByChance(t *testing.T) {
	for seed := range int64(400) {
		r := rand.New(rand.NewSource(seed))
		c := begin(t, r)
		c.alike()
		for range 200 {
			c.step(r)
			c.alike()
		}
	}
}

func TestAsManyPlacesAsThereMayBe(t *testing.T) {
	c := made(t, 4096)
	c.m = mirror.New(c.d[0], c.d[1], anything)
	c.d[1].Out(true)
	for n := range 4096 {
		c.write(n, sector(n, n), api.OK)
	}
	c.flush(api.OK)
	c.d[1].Out(false)
	c.stale(0, 4096)
	c.sync(api.OK)
	c.stale(0, 0)
	if !slices.Equal(c.d[0].Dump(), c.d[1].Dump()) {
		t.Fatal("the second one isn't as the first one")
	}
}
