package device_test

import (
	"math"
	"math/rand"
	"slices"
	"testing"

	"erewhile/api"
	"erewhile/device"
)

// sector is one of which each byte hangs on x and on where it stands; none of them is nought.
func sector(x int) (s api.Sector) {
	for i := range s {
		s[i] = byte(1 + (x*31+i*7)%255)
	}
	return s
}

// torn tells a sector whose first bytes are new, the rest as it was.
func torn(fresh, old api.Sector, bytes int) api.Sector {
	for i := range old {
		if i < bytes {
			old[i] = fresh[i]
		}
	}
	return old
}

// far are numbers below 0 and beyond any size.
func far() []int {
	return []int{-1, -2, -128, -4096, math.MinInt32, math.MinInt, math.MinInt + 1, 4096, 4097, math.MaxInt32, 1 << 32, 1<<32 + 1, math.MaxInt - 1, math.MaxInt}
}

func write(t *testing.T, d *device.Device, n int, s api.Sector, want api.Errno) {
	t.Helper()
	if e := d.Write(n, s); e != want {
		t.Fatalf("Write(%d) = %v, not %v", n, e, want)
	}
}

func flush(t *testing.T, d *device.Device, want api.Errno) {
	t.Helper()
	if e := d.Flush(); e != want {
		t.Fatalf("Flush() = %v, not %v", e, want)
	}
}

func reads(t *testing.T, d *device.Device, n int, want api.Sector, wantE api.Errno) {
	t.Helper()
	if s, e := d.Read(n); s != want || e != wantE {
		t.Fatalf("Read(%d) = %v, %v, not %v, %v", n, s, e, want, wantE)
	}
}

func isOn(t *testing.T, p *device.Power, want bool) {
	t.Helper()
	if p.On() != want {
		t.Fatalf("On() = %v", !want)
	}
}

// stands looks at what is stable, and at how many writes wait.
func stands(t *testing.T, d *device.Device, waiting int, want ...api.Sector) {
	t.Helper()
	if got := d.Dump(); !slices.Equal(got, want) {
		t.Fatalf("stable is %v, not %v", got, want)
	}
	if got := d.Waiting(); got != waiting {
		t.Fatalf("%d writes wait, not %d", got, waiting)
	}
}

// fail cuts the power at the next operation of a device.
func fail(t *testing.T, p *device.Power, d *device.Device) {
	t.Helper()
	p.Fail(0)
	flush(t, d, api.ErrDown)
	isOn(t, p, false)
}

// P8.1

func TestPowerIsOnAtFirst(t *testing.T) {
	p := device.NewPower()
	isOn(t, p, true)
	d := device.New(1, p)
	for i := range 1000 {
		write(t, d, 0, sector(i), api.OK)
		flush(t, d, api.OK)
	}
	isOn(t, p, true)
}

func TestPowerFailsAtTheOperationBehindSoMany(t *testing.T) {
	for after := range 40 {
		p := device.NewPower()
		l := []*device.Device{device.New(3, p), device.New(2, p), device.New(1, p)}
		p.Fail(after)
		for i := range after + 1 {
			want := api.OK
			isOn(t, p, true)
			if i == after {
				want = api.ErrDown
			}
			if d := l[i%3]; i%2 == 0 {
				write(t, d, i%d.Len(), sector(i), want)
			} else {
				flush(t, d, want)
			}
		}
		isOn(t, p, false)
	}
}

func TestWhatIsRefusedOrNoOperationIsNotCounted(t *testing.T) {
	p := device.NewPower()
	d, out, other := device.New(2, p), device.New(2, p), device.New(2, nil)
	out.Out(true)
	p.Fail(1)
	for range 3 {
		for _, n := range append(far(), 2, 3) {
			write(t, d, n, sector(1), api.ErrRange)
			reads(t, d, n, api.Sector{}, api.ErrRange)
		}
		write(t, out, 0, sector(1), api.ErrDown)
		flush(t, out, api.ErrDown)
		write(t, other, 0, sector(1), api.OK)
		flush(t, other, api.OK)
		reads(t, d, 0, api.Sector{}, api.OK)
		d.Rot(0, 0, 0)
		d.Tear(0, 0)
		d.Lie(false)
		d.Out(false)
		d.Dump()
		d.Waiting()
		d.Len()
		device.New(1, p)
	}
	isOn(t, p, true)
	write(t, d, 0, sector(2), api.OK)
	isOn(t, p, true)
	flush(t, d, api.ErrDown)
	isOn(t, p, false)
}

func TestALyingFlushIsAnOperation(t *testing.T) {
	p := device.NewPower()
	d := device.New(2, p)
	d.Lie(true)
	p.Fail(2)
	flush(t, d, api.OK)
	flush(t, d, api.OK)
	flush(t, d, api.ErrDown)
	isOn(t, p, false)
}

func TestTheLastFailHolds(t *testing.T) {
	p := device.NewPower()
	d := device.New(1, p)
	p.Fail(0)
	p.Fail(2)
	flush(t, d, api.OK)
	p.Fail(1)
	flush(t, d, api.OK)
	p.Fail(math.MaxInt)
	flush(t, d, api.OK)
	for _, never := range []int{-1, -2, -5, math.MinInt32, math.MinInt} {
		p.Fail(0)
		p.Fail(never)
		for range 100 {
			flush(t, d, api.OK)
		}
		isOn(t, p, true)
	}
	p.Fail(0)
	isOn(t, p, true)
	flush(t, d, api.ErrDown)
	isOn(t, p, false)
}

func TestFailTurnsNothingOnOrOff(t *testing.T) {
	p := device.NewPower()
	d := device.New(1, p)
	fail(t, p, d)
	for _, after := range []int{0, 1, 7, -1, math.MinInt, math.MaxInt} {
		p.Fail(after)
		isOn(t, p, false)
		flush(t, d, api.ErrDown)
		write(t, d, 0, sector(1), api.ErrDown)
	}
}

func TestRestartIsOnAndNotToldToFail(t *testing.T) {
	p := device.NewPower()
	d := device.New(1, p)
	for _, later := range []func(){
		func() { fail(t, p, d) },
		func() { fail(t, p, d); p.Fail(0) },
		func() { fail(t, p, d); p.Fail(3) },
		func() { p.Fail(0) },
		func() { p.Fail(5); flush(t, d, api.OK) },
		func() {},
	} {
		later()
		p.Restart()
		isOn(t, p, true)
		for range 20 {
			write(t, d, 0, sector(1), api.OK)
			flush(t, d, api.OK)
		}
		isOn(t, p, true)
	}
}

func TestRestartOfPowerThatIsOnLosesNothing(t *testing.T) {
	p := device.NewPower()
	d := device.New(1, p)
	d.Tear(0, 9)
	write(t, d, 0, sector(1), api.OK)
	p.Restart()
	reads(t, d, 0, sector(1), api.OK)
	stands(t, d, 1, api.Sector{})
	flush(t, d, api.OK)
	stands(t, d, 0, sector(1))
}

func TestNewHasSoManySectorsOfNoughts(t *testing.T) {
	for _, x := range []struct{ sectors, want int }{
		{0, 0}, {1, 1}, {2, 2}, {100, 100}, {4095, 4095}, {4096, 4096},
		{4097, 4096}, {9999, 4096}, {1 << 40, 4096}, {math.MaxInt, 4096},
		{-1, 0}, {-4096, 0}, {math.MinInt, 0},
	} {
		for _, p := range []*device.Power{nil, device.NewPower()} {
			d := device.New(x.sectors, p)
			if d == nil || d.Len() != x.want {
				t.Fatalf("New(%d) has %d sectors", x.sectors, d.Len())
			}
			stands(t, d, 0, make([]api.Sector, x.want)...)
			if x.want > 0 {
				reads(t, d, x.want-1, api.Sector{}, api.OK)
				write(t, d, x.want-1, sector(4), api.OK)
				reads(t, d, x.want-1, sector(4), api.OK)
			}
			reads(t, d, x.want, api.Sector{}, api.ErrRange)
			write(t, d, x.want, sector(4), api.ErrRange)
		}
	}
}

func TestADeviceOfNoSectorsFlushes(t *testing.T) {
	p := device.NewPower()
	d := device.New(0, p)
	flush(t, d, api.OK)
	p.Fail(0)
	write(t, d, 0, sector(1), api.ErrRange)
	isOn(t, p, true)
	flush(t, d, api.ErrDown)
	isOn(t, p, false)
}

func TestADeviceOfNilPowerHasItsOwn(t *testing.T) {
	p := device.NewPower()
	d, alone, lonely := device.New(1, p), device.New(1, nil), device.New(1, nil)
	write(t, alone, 0, sector(1), api.OK)
	fail(t, p, d)
	stands(t, alone, 1, api.Sector{})
	flush(t, alone, api.OK)
	flush(t, lonely, api.OK)
	stands(t, alone, 0, sector(1))
	stands(t, lonely, 0, api.Sector{})
}

func TestADeviceOfPowerThatIsOffIsDown(t *testing.T) {
	p := device.NewPower()
	fail(t, p, device.New(1, p))
	d := device.New(1, p)
	isOn(t, p, false)
	if d.Len() != 1 {
		t.Errorf("%d sectors", d.Len())
	}
	stands(t, d, 0, api.Sector{})
	reads(t, d, 0, api.Sector{}, api.ErrDown)
	write(t, d, 0, sector(1), api.ErrDown)
	flush(t, d, api.ErrDown)
	p.Restart()
	write(t, d, 0, sector(1), api.OK)
	flush(t, d, api.OK)
	stands(t, d, 0, sector(1))
}

// P8.2

func TestAWriteWaitsTillItIsFlushed(t *testing.T) {
	d := device.New(3, nil)
	a, b, c, zero := sector(1), sector(2), sector(3), api.Sector{}
	write(t, d, 0, a, api.OK)
	write(t, d, 2, b, api.OK)
	write(t, d, 0, c, api.OK)
	stands(t, d, 3, zero, zero, zero)
	reads(t, d, 0, c, api.OK)
	reads(t, d, 1, zero, api.OK)
	reads(t, d, 2, b, api.OK)
	flush(t, d, api.OK)
	stands(t, d, 0, c, zero, b)
	write(t, d, 2, zero, api.OK)
	write(t, d, 1, a, api.OK)
	reads(t, d, 2, zero, api.OK)
	stands(t, d, 2, c, zero, b)
	flush(t, d, api.OK)
	flush(t, d, api.OK)
	stands(t, d, 0, c, a, zero)
	reads(t, d, 0, c, api.OK)
	reads(t, d, 1, a, api.OK)
	reads(t, d, 2, zero, api.OK)
}

func TestLikeWritesWaitEachOnItsOwn(t *testing.T) {
	d := device.New(1, nil)
	for i := range 5 {
		write(t, d, 0, sector(1), api.OK)
		stands(t, d, i+1, api.Sector{})
	}
	flush(t, d, api.OK)
	write(t, d, 0, sector(1), api.OK)
	stands(t, d, 1, sector(1))
}

func TestWrongPlaces(t *testing.T) {
	d := device.New(4, nil)
	write(t, d, 3, sector(3), api.OK)
	for _, n := range append(far(), 4, 5, 7, 8, 131) {
		write(t, d, n, sector(1), api.ErrRange)
		reads(t, d, n, api.Sector{}, api.ErrRange)
		stands(t, d, 1, make([]api.Sector, 4)...)
	}
	reads(t, d, 3, sector(3), api.OK)
}

func TestDownIsToldAheadOfARange(t *testing.T) {
	p := device.NewPower()
	d := device.New(2, p)
	down := func(want api.Errno) {
		t.Helper()
		for _, n := range append(far(), 2, 3) {
			write(t, d, n, sector(1), want)
			reads(t, d, n, api.Sector{}, want)
		}
	}
	down(api.ErrRange)
	d.Out(true)
	down(api.ErrDown)
	d.Out(false)
	p.Fail(0)
	down(api.ErrRange)
	flush(t, d, api.ErrDown)
	down(api.ErrDown)
	d.Out(true)
	p.Restart()
	down(api.ErrDown)
	d.Out(false)
	down(api.ErrRange)
}

func TestReadsAtWhichPowerWouldFailAreRead(t *testing.T) {
	p := device.NewPower()
	d := device.New(2, p)
	write(t, d, 1, sector(5), api.OK)
	p.Fail(0)
	for range 5 {
		reads(t, d, 1, sector(5), api.OK)
		reads(t, d, 0, api.Sector{}, api.OK)
		reads(t, d, 2, api.Sector{}, api.ErrRange)
	}
	isOn(t, p, true)
}

func TestWithoutPowerNothingChanges(t *testing.T) {
	p := device.NewPower()
	d := device.New(2, p)
	d.Tear(9, 128)
	write(t, d, 0, sector(1), api.OK)
	fail(t, p, d)
	for range 3 {
		write(t, d, 0, sector(2), api.ErrDown)
		write(t, d, 1, sector(2), api.ErrDown)
		flush(t, d, api.ErrDown)
		reads(t, d, 0, api.Sector{}, api.ErrDown)
		stands(t, d, 0, sector(1), api.Sector{})
	}
	p.Restart()
	reads(t, d, 0, sector(1), api.OK)
	reads(t, d, 1, api.Sector{}, api.OK)
	flush(t, d, api.OK)
	stands(t, d, 0, sector(1), api.Sector{})
}

// five are the writes that wait where power fails: two sectors are written twice.
func five() []struct{ n, x int } {
	return []struct{ n, x int }{{0, 11}, {1, 12}, {0, 13}, {3, 14}, {1, 15}}
}

// kept tells what five such writes leave of sectors, the first ones whole, and so many bytes of the next one.
func kept(old []api.Sector, whole, bytes int) []api.Sector {
	l := slices.Clone(old)
	for i, w := range five() {
		if i < whole {
			l[w.n] = sector(w.x)
		} else if i == whole {
			l[w.n] = torn(sector(w.x), l[w.n], bytes)
		}
	}
	return l
}

func TestEachTear(t *testing.T) {
	tears := []struct{ told, counts int }{{-1, 0}, {0, 0}, {1, 1}, {2, 2}, {64, 64}, {127, 127}, {128, 128}, {129, 128}, {math.MaxInt, 128}, {math.MinInt, 0}, {-128, 0}, {256, 128}, {1 << 32, 128}}
	wholes := []struct{ told, counts int }{{math.MinInt, 0}, {-1, 0}, {0, 0}, {1, 1}, {2, 2}, {3, 3}, {4, 4}, {5, 5}, {6, 6}, {1 << 32, 6}, {math.MaxInt, 6}}
	for _, whole := range wholes {
		for _, bytes := range tears {
			for _, atFlush := range []bool{false, true} {
				p := device.NewPower()
				d, old := device.New(4, p), []api.Sector{sector(1), sector(2), sector(3), sector(4)}
				for n, s := range old {
					write(t, d, n, s, api.OK)
				}
				flush(t, d, api.OK)
				d.Tear(whole.told, bytes.told)
				cut(t, p, d, atFlush)
				stands(t, d, 0, kept(old, whole.counts, bytes.counts)...)
				p.Restart()
				for n, s := range kept(old, whole.counts, bytes.counts) {
					reads(t, d, n, s, api.OK)
				}
				flush(t, d, api.OK)
				stands(t, d, 0, kept(old, whole.counts, bytes.counts)...)
			}
		}
	}
}

// cut writes the five, and power fails at the last one of them, or at a flush behind it.
func cut(t *testing.T, p *device.Power, d *device.Device, atFlush bool) {
	t.Helper()
	p.Fail(4)
	if atFlush {
		p.Fail(5)
	}
	for i, w := range five() {
		if i == 4 && !atFlush {
			write(t, d, w.n, sector(w.x), api.ErrDown)
		} else {
			write(t, d, w.n, sector(w.x), api.OK)
		}
	}
	if atFlush {
		flush(t, d, api.ErrDown)
	}
	isOn(t, p, false)
}

func TestTheExample(t *testing.T) {
	p := device.NewPower()
	d := device.New(2, p)
	write(t, d, 0, sector(1), api.OK)
	write(t, d, 1, sector(2), api.OK)
	d.Tear(1, 2)
	fail(t, p, d)
	stands(t, d, 0, sector(1), torn(sector(2), api.Sector{}, 2))
}

func TestWithoutTearNothingIsKept(t *testing.T) {
	p := device.NewPower()
	d := device.New(2, p)
	write(t, d, 0, sector(1), api.OK)
	write(t, d, 1, sector(2), api.OK)
	fail(t, p, d)
	stands(t, d, 0, make([]api.Sector, 2)...)
	p.Restart()
	reads(t, d, 0, api.Sector{}, api.OK)
	reads(t, d, 1, api.Sector{}, api.OK)
}

func TestEachDeviceOfAPowerIsTorn(t *testing.T) {
	p := device.NewPower()
	zero := api.Sector{}
	var l []*device.Device
	for i := range 5 {
		d := device.New(2, p)
		d.Tear(i/2, 10*i)
		write(t, d, 0, sector(i), api.OK)
		write(t, d, 1, sector(i+50), api.OK)
		l = append(l, d)
	}
	p.Fail(0)
	write(t, l[3], 0, sector(99), api.ErrDown)
	isOn(t, p, false)
	stands(t, l[0], 0, zero, zero)
	stands(t, l[1], 0, torn(sector(1), zero, 10), zero)
	stands(t, l[2], 0, sector(2), torn(sector(52), zero, 20))
	stands(t, l[3], 0, sector(3), torn(sector(53), zero, 30))
	stands(t, l[4], 0, sector(4), sector(54))
	for _, d := range l {
		write(t, d, 0, sector(1), api.ErrDown)
		flush(t, d, api.ErrDown)
		reads(t, d, 0, zero, api.ErrDown)
	}
}

func TestDevicesMadeLaterFailToo(t *testing.T) {
	p := device.NewPower()
	d := device.New(1, p)
	fail(t, p, d)
	p.Restart()
	late := device.New(1, p)
	late.Tear(0, 7)
	write(t, late, 0, sector(1), api.OK)
	fail(t, p, d)
	stands(t, late, 0, torn(sector(1), api.Sector{}, 7))
}

func TestOfTwoPowersOneFails(t *testing.T) {
	p, q := device.NewPower(), device.NewPower()
	a, b := device.New(1, p), device.New(1, q)
	write(t, a, 0, sector(1), api.OK)
	write(t, b, 0, sector(2), api.OK)
	fail(t, p, a)
	isOn(t, q, true)
	stands(t, a, 0, api.Sector{})
	stands(t, b, 1, api.Sector{})
	flush(t, b, api.OK)
	stands(t, b, 0, sector(2))
}

// P8.3

func TestWhatTearToldLastHolds(t *testing.T) {
	p := device.NewPower()
	d := device.New(1, p)
	d.Tear(5, 100)
	d.Tear(0, 3)
	old := api.Sector{}
	for i := range 4 { // it holds from failure to failure, and whatever else is told
		d.Out(true)
		d.Out(false)
		d.Lie(i%2 == 0)
		write(t, d, 0, sector(i), api.OK)
		fail(t, p, d)
		old = torn(sector(i), old, 3)
		stands(t, d, 0, old)
		p.Restart()
	}
	write(t, d, 0, sector(9), api.OK)
	d.Tear(-4, 5) // behind the write, ahead of the failure
	fail(t, p, d)
	old = torn(sector(9), old, 5)
	stands(t, d, 0, old)
	d.Tear(1, 0) // it is off by then
	stands(t, d, 0, old)
	p.Restart()
	write(t, d, 0, sector(7), api.OK)
	fail(t, p, d)
	stands(t, d, 0, sector(7))
}

func TestOneWhoLiesFlushesNothing(t *testing.T) {
	p := device.NewPower()
	d := device.New(2, p)
	zero := api.Sector{}
	d.Lie(true)
	write(t, d, 0, sector(1), api.OK)
	flush(t, d, api.OK)
	write(t, d, 1, sector(2), api.OK)
	flush(t, d, api.OK)
	stands(t, d, 2, zero, zero)
	reads(t, d, 0, sector(1), api.OK)
	reads(t, d, 1, sector(2), api.OK)
	d.Lie(false)
	stands(t, d, 2, zero, zero)
	flush(t, d, api.OK)
	stands(t, d, 0, sector(1), sector(2))
	d.Lie(true)
	d.Lie(true)
	write(t, d, 0, sector(3), api.OK)
	flush(t, d, api.OK)
	d.Tear(0, 64)
	fail(t, p, d)
	stands(t, d, 0, torn(sector(3), sector(1), 64), sector(2))
	flush(t, d, api.ErrDown)
	p.Restart()
	d.Out(true)
	flush(t, d, api.ErrDown)
}

func TestOneWhoGoesOutLosesWhatWaits(t *testing.T) {
	p := device.NewPower()
	d := device.New(2, p)
	d.Tear(9, 128)
	write(t, d, 0, sector(1), api.OK)
	flush(t, d, api.OK)
	write(t, d, 0, sector(2), api.OK)
	write(t, d, 1, sector(3), api.OK)
	d.Out(false) // it was in
	stands(t, d, 2, sector(1), api.Sector{})
	d.Out(true)
	isOn(t, p, true)
	for range 2 {
		stands(t, d, 0, sector(1), api.Sector{})
		reads(t, d, 0, api.Sector{}, api.ErrDown)
		write(t, d, 0, sector(4), api.ErrDown)
		flush(t, d, api.ErrDown)
		d.Out(true)
	}
	d.Out(false)
	stands(t, d, 0, sector(1), api.Sector{})
	reads(t, d, 0, sector(1), api.OK)
	reads(t, d, 1, api.Sector{}, api.OK)
	write(t, d, 1, sector(5), api.OK)
	flush(t, d, api.OK)
	stands(t, d, 0, sector(1), sector(5))
}

func TestOneWhoIsOutIsNotTorn(t *testing.T) {
	p := device.NewPower()
	d, other := device.New(1, p), device.New(1, p)
	d.Tear(3, 128)
	write(t, d, 0, sector(1), api.OK)
	flush(t, d, api.OK)
	write(t, d, 0, sector(2), api.OK)
	d.Out(true)
	fail(t, p, other)
	stands(t, d, 0, sector(1))
	d.Out(false)
	reads(t, d, 0, api.Sector{}, api.ErrDown)
	p.Restart()
	reads(t, d, 0, sector(1), api.OK)
}

func TestOutWhilePowerIsOff(t *testing.T) {
	p := device.NewPower()
	d := device.New(1, p)
	write(t, d, 0, sector(1), api.OK)
	flush(t, d, api.OK)
	fail(t, p, d)
	d.Out(true)
	p.Restart()
	reads(t, d, 0, api.Sector{}, api.ErrDown)
	d.Out(false)
	reads(t, d, 0, sector(1), api.OK)
}

func TestRotIsOfOneByte(t *testing.T) {
	d := device.New(3, nil)
	l := make([]api.Sector, 3)
	for n := range l {
		l[n] = sector(n)
		write(t, d, n, l[n], api.OK)
	}
	flush(t, d, api.OK)
	for n := range l {
		for _, at := range []int{0, 1, 63, 126, 127} {
			for _, mask := range []byte{0, 1, 128, 255, 3, 3} {
				l[n][at] ^= mask
				if !d.Rot(n, at, mask) {
					t.Fatalf("no byte %d of %d", at, n)
				}
				stands(t, d, 0, l...)
				reads(t, d, n, l[n], api.OK)
			}
		}
	}
}

func TestRotOfNoSuchByte(t *testing.T) {
	d := device.New(2, nil)
	write(t, d, 1, sector(1), api.OK)
	flush(t, d, api.OK)
	for _, x := range append(far(), 2, 3) {
		if d.Rot(x, 0, 1) || d.Rot(x, 127, 255) {
			t.Fatalf("a sector %d", x)
		}
	}
	for _, x := range append(far(), 128, 129, 255) {
		if d.Rot(0, x, 1) || d.Rot(1, x, 255) || d.Rot(x, x, 1) {
			t.Fatalf("a byte %d", x)
		}
	}
	if device.New(0, nil).Rot(0, 0, 1) {
		t.Fatal("a byte of no sectors")
	}
	stands(t, d, 0, api.Sector{}, sector(1))
}

func TestRotIsOfWhatIsStable(t *testing.T) {
	p := device.NewPower()
	d := device.New(2, p)
	write(t, d, 0, sector(1), api.OK)
	d.Rot(0, 5, 9)
	reads(t, d, 0, sector(1), api.OK) // what waits isn't rotten
	rotten := api.Sector{5: 9}
	stands(t, d, 1, rotten, api.Sector{})
	d.Tear(0, 3)
	fail(t, p, d)
	rotten = torn(sector(1), rotten, 3)
	stands(t, d, 0, rotten, api.Sector{})
	if !d.Rot(0, 127, 1) { // power is off
		t.Fatal("Rot")
	}
	rotten[127] ^= 1
	d.Out(true)
	if !d.Rot(0, 0, 64) { // and it is out
		t.Fatal("Rot")
	}
	rotten[0] ^= 64
	p.Restart()
	if !d.Rot(0, 1, 32) { // it is out, with power
		t.Fatal("Rot")
	}
	rotten[1] ^= 32
	stands(t, d, 0, rotten, api.Sector{})
	d.Out(false)
	reads(t, d, 0, rotten, api.OK)
	write(t, d, 0, sector(2), api.OK)
	flush(t, d, api.OK)
	stands(t, d, 0, sector(2), api.Sector{}) // what is written anew isn't rotten any more
}

func TestDumpIsNewMemory(t *testing.T) {
	d := device.New(2, nil)
	write(t, d, 0, sector(1), api.OK)
	flush(t, d, api.OK)
	l, again := d.Dump(), d.Dump()
	l[0][0]++
	l[1] = sector(9)
	_ = append(l[:1], sector(8))
	if again[0] != sector(1) || again[1] != (api.Sector{}) {
		t.Fatal("one Dump writes over another one")
	}
	stands(t, d, 0, sector(1), api.Sector{})
	reads(t, d, 0, sector(1), api.OK)
	write(t, d, 0, sector(3), api.OK)
	flush(t, d, api.OK)
	d.Rot(1, 0, 1)
	if again[0] != sector(1) || again[1] != (api.Sector{}) {
		t.Fatal("the device writes over a Dump")
	}
}

func TestDumpAndWaitingWithoutPowerAndOut(t *testing.T) {
	p := device.NewPower()
	d := device.New(1, p)
	write(t, d, 0, sector(1), api.OK)
	flush(t, d, api.OK)
	stands(t, d, 0, sector(1))
	d.Out(true)
	stands(t, d, 0, sector(1))
	fail(t, p, device.New(0, p))
	stands(t, d, 0, sector(1))
	d.Out(false)
	stands(t, d, 0, sector(1))
	if d.Len() != 1 {
		t.Fatalf("%d sectors", d.Len())
	}
}

// P8.4

func TestWhatIsFlushedStays(t *testing.T) {
	r := rand.New(rand.NewSource(84))
	p := device.NewPower()
	d := device.New(8, p)
	want := make([]api.Sector, 8)
	for i := range 300 {
		for n := range 4 { // the other four are written, but never flushed
			want[n] = sector(i*8 + n)
			write(t, d, n, want[n], api.OK)
		}
		flush(t, d, api.OK)
		d.Tear(r.Intn(6), r.Intn(129))
		for range r.Intn(5) {
			write(t, d, 4+r.Intn(4), sector(r.Intn(1000)), api.OK)
		}
		if i%3 == 0 {
			d.Out(true)
			d.Out(false)
		} else {
			fail(t, p, d)
			p.Restart()
		}
		for n := range 4 {
			reads(t, d, n, want[n], api.OK)
		}
		if got := d.Dump(); !slices.Equal(got[:4], want[:4]) {
			t.Fatal("what was flushed went")
		}
	}
}

func TestNilDevice(t *testing.T) {
	var d *device.Device
	for _, n := range append(far(), 0, 1) {
		reads(t, d, n, api.Sector{}, api.ErrArg)
		write(t, d, n, sector(1), api.ErrArg)
		d.Tear(n, n)
		if d.Rot(n, 0, 1) || d.Rot(0, n, 1) {
			t.Fatal("Rot")
		}
	}
	flush(t, d, api.ErrArg)
	for _, on := range []bool{true, false} {
		d.Lie(on)
		d.Out(on)
	}
	flush(t, d, api.ErrArg)
	stands(t, d, 0)
	if d.Len() != 0 {
		t.Fatalf("%d sectors", d.Len())
	}
}

func TestNilPower(t *testing.T) {
	var p *device.Power
	isOn(t, p, false)
	for _, n := range append(far(), 0, 1) {
		p.Fail(n)
		isOn(t, p, false)
	}
	p.Restart()
	isOn(t, p, false)
}

func TestWhatIsHandedInIsNotKept(t *testing.T) {
	d := device.New(1, nil)
	s := sector(1)
	write(t, d, 0, s, api.OK)
	s[0]++
	got, _ := d.Read(0)
	got[1]++
	reads(t, d, 0, sector(1), api.OK)
	flush(t, d, api.OK)
	got, _ = d.Read(0)
	got[1]++
	stands(t, d, 0, sector(1))
}

// All of it, against a second, plain writing.

// plainPower has its devices in a list, and counts down.
type plainPower struct {
	on, told bool
	ahead    int
	devices  []*plainDevice
}

// plainDevice has all writes since the last flush, and tells a sector by going through them.
type plainDevice struct {
	power       *plainPower
	stable      []api.Sector
	places      []int
	writes      []api.Sector
	kept, bytes int
	lies, out   bool
}

func (d *plainDevice) drop() { d.places, d.writes = nil, nil }

// fails counts an operation, and cuts the power, if it is time.
func (p *plainPower) fails() bool {
	if !p.told {
		return false
	}
	if p.ahead > 0 {
		p.ahead--
		return false
	}
	p.on, p.told = false, false
	for _, d := range p.devices {
		if d.out {
			continue
		}
		for i, n := range d.places {
			if i < d.kept {
				d.stable[n] = d.writes[i]
			} else if i == d.kept {
				d.stable[n] = torn(d.writes[i], d.stable[n], d.bytes)
			}
		}
		d.drop()
	}
	return true
}

func (d *plainDevice) write(n int, s api.Sector) api.Errno {
	if !d.power.on || d.out {
		return api.ErrDown
	}
	if n < 0 || n >= len(d.stable) {
		return api.ErrRange
	}
	d.places, d.writes = append(d.places, n), append(d.writes, s)
	if d.power.fails() {
		return api.ErrDown
	}
	return api.OK
}

func (d *plainDevice) flush() api.Errno {
	if !d.power.on || d.out || d.power.fails() {
		return api.ErrDown
	}
	if d.lies {
		return api.OK
	}
	for i, n := range d.places {
		d.stable[n] = d.writes[i]
	}
	d.drop()
	return api.OK
}

func (d *plainDevice) read(n int) (api.Sector, api.Errno) {
	if !d.power.on || d.out {
		return api.Sector{}, api.ErrDown
	}
	if n < 0 || n >= len(d.stable) {
		return api.Sector{}, api.ErrRange
	}
	s := d.stable[n]
	for i, at := range d.places {
		if at == n {
			s = d.writes[i]
		}
	}
	return s, api.OK
}

func (d *plainDevice) rot(n, at int, mask byte) bool {
	if n < 0 || n >= len(d.stable) || at < 0 || at > 127 {
		return false
	}
	d.stable[n][at] ^= mask
	return true
}

// pair is a device and its plain writing.
type pair struct {
	d *device.Device
	x *plainDevice
}

// step does one thing, by chance, to both.
func (c pair) step(t *testing.T, r *rand.Rand, p *device.Power) {
	t.Helper()
	n := r.Intn(len(c.x.stable)+2) - 1
	switch k := r.Intn(40); {
	case k < 16:
		s := sector(r.Intn(1000))
		write(t, c.d, n, s, c.x.write(n, s))
	case k < 22:
		flush(t, c.d, c.x.flush())
	case k < 25:
		kept, bytes := r.Intn(9)-1, r.Intn(150)-10
		c.x.kept, c.x.bytes = max(kept, 0), min(max(bytes, 0), 128)
		c.d.Tear(kept, bytes)
	case k < 27:
		c.x.lies = r.Intn(3) == 0
		c.d.Lie(c.x.lies)
	case k < 30:
		if c.x.out = r.Intn(3) == 0; c.x.out {
			c.x.drop()
		}
		c.d.Out(c.x.out)
	case k < 33:
		at, mask := r.Intn(130)-1, byte(r.Intn(256))
		if got, want := c.d.Rot(n, at, mask), c.x.rot(n, at, mask); got != want {
			t.Fatalf("Rot(%d, %d) = %v", n, at, got)
		}
	case k < 36:
		after := r.Intn(12) - 2
		c.x.power.told, c.x.power.ahead = after >= 0 && c.x.power.on, after
		p.Fail(after)
	case !c.x.power.on || k == 39:
		c.x.power.on, c.x.power.told = true, false
		p.Restart()
	}
}

// alike looks at all that both tell.
func (c pair) alike(t *testing.T) {
	t.Helper()
	stands(t, c.d, len(c.x.places), c.x.stable...)
	for n := -1; n <= len(c.x.stable); n++ {
		s, e := c.x.read(n)
		reads(t, c.d, n, s, e)
	}
	if c.d.Len() != len(c.x.stable) {
		t.Fatalf("%d sectors", c.d.Len())
	}
}

func TestByChance(t *testing.T) {
	for seed := range int64(120) {
		r := rand.New(rand.NewSource(seed))
		p, q := device.NewPower(), &plainPower{on: true}
		var all []pair
		for range 1 + r.Intn(4) {
			n := r.Intn(6)
			x := &plainDevice{power: q, stable: make([]api.Sector, n)}
			q.devices = append(q.devices, x)
			all = append(all, pair{device.New(n, p), x})
		}
		for range 400 {
			all[r.Intn(len(all))].step(t, r, p)
			isOn(t, p, q.on)
			for _, c := range all {
				c.alike(t)
			}
		}
	}
}

func TestManyWritesWait(t *testing.T) {
	const many = 1 << 17
	p := device.NewPower()
	d := device.New(4096, p)
	d.Lie(true)
	want := make([]api.Sector, 4096)
	for i := range many {
		n := i * 5 % 4096
		write(t, d, n, sector(i), api.OK)
		reads(t, d, n, sector(i), api.OK)
		if i < many-10 {
			want[n] = sector(i)
		}
	}
	flush(t, d, api.OK)
	stands(t, d, many, make([]api.Sector, 4096)...)
	d.Tear(many-10, 0)
	fail(t, p, d)
	stands(t, d, 0, want...)
}
