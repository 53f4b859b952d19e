package scrub_test

import (
	"math/rand"
	"slices"
	"testing"

	"erewhile/api"
	"erewhile/device"
	"erewhile/mirror"
	"erewhile/scrub"
)

// sector is one that good says so of at the place n, and at no other one.
func sector(n, x int) api.Sector {
	return api.Sector{byte(n), byte(n >> 8), byte(x), 100: byte(n) ^ 85}
}

func good(n int, s api.Sector) bool {
	return s[0] == byte(n) && s[1] == byte(n>>8) && s[100] == byte(n)^85
}

// set is two devices, each of a power of its own, and their mirror.
type set struct {
	p [2]*device.Power
	d [2]*device.Device
	m *mirror.Mirror
}

// made is a set of two devices with so many sectors each.
func made(places int) *set {
	return madeOf(places, places, good)
}

func madeOf(first, second int, good func(int, api.Sector) bool) *set {
	c := &set{}
	for i, sectors := range [2]int{first, second} {
		c.p[i] = device.NewPower()
		c.d[i] = device.New(sectors, c.p[i])
	}
	c.m = mirror.New(c.d[0], c.d[1], good)
	return c
}

// filled is a set at each place of which both devices have the same, flushed.
func filled(t *testing.T, places int) *set {
	t.Helper()
	c := made(places)
	for n := range places {
		c.write(t, n, 1)
	}
	c.flush(t)
	return c
}

func (c *set) write(t *testing.T, n, x int) {
	t.Helper()
	if e := c.m.Write(n, sector(n, x)); e != api.OK {
		t.Fatalf("Write(%d) = %v", n, e)
	}
}

func (c *set) flush(t *testing.T) {
	t.Helper()
	if e := c.m.Flush(); e != api.OK {
		t.Fatalf("Flush() = %v", e)
	}
}

// rot makes the place wrong on the device.
func (c *set) rot(t *testing.T, i, n int) {
	t.Helper()
	if !c.d[i].Rot(n, 0, 128) {
		t.Fatalf("device %d has no place %d to rot", i, n)
	}
}

func (c *set) all(t *testing.T, right, healed, lost int) {
	t.Helper()
	want := scrub.Report{Right: right, Healed: healed, Lost: lost}
	if r := scrub.All(c.m); r != want {
		t.Fatalf("All = %v, not %v", r, want)
	}
}

// alike asks whether both devices read the same at the place, and good says so of it.
func (c *set) alike(n int) bool {
	a, e := c.d[0].Read(n)
	b, f := c.d[1].Read(n)
	return e == api.OK && f == api.OK && a == b && good(n, a)
}

func step(t *testing.T, w *scrub.Walk, want int, wantOK bool) {
	t.Helper()
	if n, ok := w.Step(); n != want || ok != wantOK {
		t.Fatalf("Step() = %d, %v, not %d, %v", n, ok, want, wantOK)
	}
}

func report(t *testing.T, w *scrub.Walk, right, healed, lost int) {
	t.Helper()
	want := scrub.Report{Right: right, Healed: healed, Lost: lost}
	if r := w.Report(); r != want {
		t.Fatalf("Report() = %v, not %v", r, want)
	}
}

// P10.1

func TestAllOfTheExample(t *testing.T) {
	c := filled(t, 3)
	c.rot(t, 0, 1)
	c.rot(t, 0, 2)
	c.rot(t, 1, 2)
	c.all(t, 1, 1, 1)
	c.all(t, 2, 0, 1)
}

func TestAllCountsEachKindByItself(t *testing.T) {
	for right := range 4 {
		for healed := range 4 {
			for lost := range 4 {
				c := filled(t, right+healed+lost)
				for n := right; n < right+healed; n++ {
					c.rot(t, n%2, n)
				}
				for n := right + healed; n < c.m.Len(); n++ {
					c.rot(t, 0, n)
					c.rot(t, 1, n)
				}
				c.all(t, right, healed, lost)
				c.all(t, right+healed, 0, lost)
			}
		}
	}
}

func TestAllHealsBothWays(t *testing.T) {
	c := filled(t, 4)
	c.rot(t, 0, 0)
	c.rot(t, 1, 3)
	c.all(t, 2, 2, 0)
	for n := range 4 {
		if s, e := c.d[n%2].Read(n); s != sector(n, 1) || e != api.OK || !c.alike(n) {
			t.Fatalf("place %d: %v, %v", n, s, e)
		}
	}
}

func TestAllTakesTheFirstOnesWhereTheyDiffer(t *testing.T) {
	c := filled(t, 2)
	if e := c.d[0].Write(1, sector(1, 7)); e != api.OK {
		t.Fatal(e)
	}
	c.all(t, 1, 1, 0)
	if s, _ := c.d[1].Read(1); s != sector(1, 7) {
		t.Fatalf("the second one has %v", s)
	}
}

func TestAllHealsWhatIsStale(t *testing.T) {
	c := filled(t, 5)
	c.d[1].Out(true)
	c.write(t, 0, 2)
	c.write(t, 4, 3)
	c.d[1].Out(false)
	c.all(t, 3, 2, 0)
	if a, b := c.m.Stale(); a != 0 || b != 0 {
		t.Fatalf("Stale() = %d, %d", a, b)
	}
	if s, _ := c.d[1].Read(4); s != sector(4, 3) {
		t.Fatalf("the second one has %v", s)
	}
}

func TestAllLeavesWhatIsLost(t *testing.T) {
	c := filled(t, 2)
	c.rot(t, 0, 0)
	c.rot(t, 1, 0)
	before := [2][]api.Sector{c.d[0].Dump(), c.d[1].Dump()}
	c.all(t, 1, 0, 1)
	for i, d := range c.d {
		if d.Waiting() != 0 || !slices.Equal(d.Dump(), before[i]) {
			t.Fatalf("device %d was written", i)
		}
	}
}

func TestAllGoesThroughThePlacesThatBothHave(t *testing.T) {
	for _, sizes := range [][2]int{{0, 0}, {0, 3}, {3, 0}, {-1, 3}, {2, 5}, {5, 2}, {1, 1}, {4096, 4097}} {
		var asked []int
		c := madeOf(sizes[0], sizes[1], func(n int, _ api.Sector) bool {
			asked = append(asked, n)
			return true
		})
		places := c.m.Len()
		c.all(t, places, 0, 0)
		if !slices.IsSorted(asked) {
			t.Fatalf("%v: the places weren't scrubbed from 0 on: %v", sizes, asked)
		}
		if asked = slices.Compact(asked); len(asked) != places || places > 0 && asked[places-1] != places-1 {
			t.Fatalf("%v: these places were scrubbed: %v", sizes, asked)
		}
	}
}

func TestAllScrubsEachPlaceOnce(t *testing.T) {
	times := make([]int, 6)
	c := madeOf(6, 6, func(n int, _ api.Sector) bool {
		times[n]++
		return true
	})
	if c.m.Heal(0); times[0] == 0 {
		t.Fatal("nothing was asked of the place")
	}
	once := times[0]
	times[0] = 0
	scrub.All(c.m)
	if !slices.Equal(times, slices.Repeat([]int{once}, 6)) {
		t.Fatalf("places were asked of %v times, not %d", times, once)
	}
}

func TestAllCountsErrorsAsNothing(t *testing.T) {
	for i := range 2 {
		c := filled(t, 3)
		c.rot(t, 0, 1)
		c.d[i].Out(true)
		c.all(t, 0, 0, 0)
		c.d[i].Out(false)
		c.all(t, 2, 1, 0)
		c.p[i].Fail(0)
		c.write(t, 0, 2)
		c.all(t, 0, 0, 0)
	}
}

func TestAllWherePowerFails(t *testing.T) {
	for after := range 4 {
		c := filled(t, 6)
		for n := 1; n < 6; n += 2 {
			c.rot(t, 1, n)
		}
		c.p[1].Fail(after)
		// Places 0, 2 and 4 are right, ahead of the writing at which power fails, and nothing behind it counts.
		right := after + 1
		c.all(t, min(right, 3), after, 0)
		if c.p[1].On() != (after == 3) {
			t.Fatalf("%d: power is on: %v", after, c.p[1].On())
		}
	}
}

func TestAllFlushesNothing(t *testing.T) {
	c := filled(t, 4)
	c.rot(t, 0, 2)
	before := c.d[0].Dump()
	c.all(t, 3, 1, 0)
	if c.d[0].Waiting() != 1 || c.d[1].Waiting() != 0 || !slices.Equal(c.d[0].Dump(), before) {
		t.Fatalf("%d and %d writes wait", c.d[0].Waiting(), c.d[1].Waiting())
	}
}

func TestAllOfNothing(t *testing.T) {
	for _, m := range []*mirror.Mirror{nil, mirror.New(nil, nil, nil), mirror.New(device.New(3, nil), nil, good), mirror.New(nil, device.New(3, nil), good)} {
		if r := scrub.All(m); r != (scrub.Report{}) {
			t.Fatalf("All = %v", r)
		}
		w := scrub.New(m)
		step(t, w, 0, false)
		report(t, w, 0, 0, 0)
	}
}

func TestAllIsLostWhereNothingIsGood(t *testing.T) {
	c := madeOf(3, 4, nil)
	c.all(t, 0, 0, 3)
}

// P10.2

func TestStepsThroughAMirror(t *testing.T) {
	c := filled(t, 5)
	c.rot(t, 0, 1)
	c.rot(t, 0, 2)
	c.rot(t, 1, 2)
	c.rot(t, 1, 4)
	w := scrub.New(c.m)
	report(t, w, 0, 0, 0)
	for n, want := range []scrub.Report{{Right: 1}, {1, 1, 0}, {1, 1, 1}, {2, 1, 1}, {2, 2, 1}} {
		step(t, w, n, true)
		if r := w.Report(); r != want {
			t.Fatalf("behind place %d: %v, not %v", n, r, want)
		}
	}
	for range 3 {
		step(t, w, 0, false)
		report(t, w, 2, 2, 1)
	}
}

func TestNewScrubsNothing(t *testing.T) {
	c := filled(t, 2)
	c.rot(t, 0, 0)
	w := scrub.New(c.m)
	if c.d[0].Waiting() != 0 {
		t.Fatal("New scrubbed")
	}
	report(t, w, 0, 0, 0)
	if w.Report(); c.d[0].Waiting() != 0 {
		t.Fatal("Report scrubbed")
	}
}

func TestStepScrubsOnePlace(t *testing.T) {
	c := filled(t, 4)
	for n := range 4 {
		c.rot(t, 0, n)
	}
	w := scrub.New(c.m)
	for n := range 4 {
		step(t, w, n, true)
		for k := range 4 {
			if c.alike(k) != (k <= n) {
				t.Fatalf("behind step %d place %d is healed: %v", n, k, c.alike(k))
			}
		}
	}
	step(t, w, 0, false)
}

// What befalls a place behind the walk is nothing to it; what does ahead of it counts.
func TestStepSeesWhatHappenedMeanwhile(t *testing.T) {
	c := filled(t, 3)
	w := scrub.New(c.m)
	step(t, w, 0, true)
	c.rot(t, 0, 0)
	c.rot(t, 1, 1)
	step(t, w, 1, true)
	report(t, w, 1, 1, 0)
	c.write(t, 2, 9)
	step(t, w, 2, true)
	report(t, w, 2, 1, 0)
	c.rot(t, 0, 1)
	step(t, w, 0, false)
	report(t, w, 2, 1, 0)
	if c.alike(0) || c.alike(1) {
		t.Fatal("a place behind the walk was scrubbed again")
	}
}

func TestStepGoesOnBehindErrors(t *testing.T) {
	c := filled(t, 4)
	w := scrub.New(c.m)
	step(t, w, 0, true)
	c.d[0].Out(true)
	step(t, w, 1, true)
	step(t, w, 2, true)
	report(t, w, 1, 0, 0)
	c.d[0].Out(false)
	step(t, w, 3, true)
	report(t, w, 2, 0, 0)
	step(t, w, 0, false)
	report(t, w, 2, 0, 0)
}

func TestStepsAllAreErrors(t *testing.T) {
	c := filled(t, 3)
	c.d[1].Out(true)
	w := scrub.New(c.m)
	for n := range 3 {
		step(t, w, n, true)
	}
	step(t, w, 0, false)
	report(t, w, 0, 0, 0)
}

func TestWalksAreOfTheirOwn(t *testing.T) {
	c := filled(t, 3)
	c.rot(t, 0, 0)
	one, two := scrub.New(c.m), scrub.New(c.m)
	step(t, one, 0, true)
	step(t, one, 1, true)
	step(t, two, 0, true)
	report(t, one, 1, 1, 0)
	report(t, two, 1, 0, 0)
	c.all(t, 3, 0, 0)
	step(t, two, 1, true)
	step(t, one, 2, true)
	step(t, one, 0, false)
	step(t, two, 2, true)
	report(t, one, 2, 1, 0)
	report(t, two, 3, 0, 0)
}

// A report is a value: neither is it changed by what comes, nor does changing it change the walk.
func TestReportIsAValue(t *testing.T) {
	c := filled(t, 2)
	w := scrub.New(c.m)
	step(t, w, 0, true)
	r := w.Report()
	step(t, w, 1, true)
	if r != (scrub.Report{Right: 1}) {
		t.Fatalf("the elder report is %v", r)
	}
	r = w.Report()
	r.Right, r.Lost = 70, 80
	report(t, w, 2, 0, 0)
}

func TestNilAndZeroWalks(t *testing.T) {
	for _, w := range []*scrub.Walk{nil, {}, scrub.New(nil), scrub.New(&mirror.Mirror{})} {
		for range 3 {
			step(t, w, 0, false)
			report(t, w, 0, 0, 0)
		}
	}
}

// P10.3

func TestAgainAllIsRightOrLost(t *testing.T) {
	r := rand.New(rand.NewSource(10))
	for range 300 {
		c := byChance(t, r, 1+r.Intn(30))
		for i := range c.d {
			c.p[i].Restart()
			c.d[i].Out(false)
		}
		first := scrub.All(c.m)
		if first.Right+first.Healed+first.Lost != c.m.Len() {
			t.Fatalf("%v of %d places", first, c.m.Len())
		}
		for range 2 {
			c.all(t, first.Right+first.Healed, 0, first.Lost)
		}
		var right int
		for n := range c.m.Len() {
			if kind, e := c.m.Heal(n); e != api.OK || kind == 1 || kind == 0 != c.readable(n) {
				t.Fatalf("Heal(%d) = %d, %v", n, kind, e)
			} else if kind == 0 && c.alike(n) {
				right++
			}
		}
		if right != first.Right+first.Healed {
			t.Fatalf("%d places are right behind %v", right, first)
		}
	}
}

func (c *set) readable(n int) bool {
	s, e := c.m.Read(n)
	return e == api.OK && good(n, s)
}

// byChance is a set to which much has happened.
func byChance(t *testing.T, r *rand.Rand, places int) *set {
	t.Helper()
	c := made(places)
	for range r.Intn(120) {
		c.happen(r)
	}
	return c
}

// happen does something to the set.
func (c *set) happen(r *rand.Rand) {
	n, i := r.Intn(c.m.Len()), r.Intn(2)
	switch r.Intn(12) {
	case 0:
		c.d[i].Rot(n, r.Intn(3), byte(r.Intn(256)))
	case 1:
		c.d[i].Out(r.Intn(2) == 0)
	case 2:
		c.p[i].Fail(r.Intn(9) - 1)
	case 3:
		c.p[i].Restart()
	case 4:
		c.m.Flush()
	case 5:
		c.d[i].Write(n, sector(n, r.Intn(9)))
	case 6:
		c.d[i].Tear(r.Intn(5), r.Intn(128))
	default:
		c.m.Write(n, sector(n, r.Intn(9)))
	}
}

// byHand scrubs the place, and counts it.
func (c *set) byHand(n int, r *scrub.Report) {
	switch kind, e := c.m.Heal(n); {
	case e != api.OK:
	case kind == 0:
		r.Right++
	case kind == 1:
		r.Healed++
	default:
		r.Lost++
	}
}

// sameAs holds the devices against those of a twin.
func (c *set) sameAs(t *testing.T, d *set) {
	t.Helper()
	for i := range c.d {
		if !slices.Equal(c.d[i].Dump(), d.d[i].Dump()) || c.d[i].Waiting() != d.d[i].Waiting() || c.p[i].On() != d.p[i].On() {
			t.Fatalf("device %d isn't as its twin", i)
		}
	}
}

// Walks by chance are held against Heal, asked place by place of a twin to which the same happened.
func TestWalksByChance(t *testing.T) {
	for seed := range int64(400) {
		r, twin := rand.New(rand.NewSource(seed)), rand.New(rand.NewSource(seed))
		places := 1 + int(seed)%17
		c, d := byChance(t, r, places), byChance(t, twin, places)
		w := scrub.New(c.m)
		var want scrub.Report
		for n := range places {
			step(t, w, n, true)
			d.byHand(n, &want)
			report(t, w, want.Right, want.Healed, want.Lost)
			c.sameAs(t, d)
			c.happen(r)
			d.happen(twin)
		}
		step(t, w, 0, false)
		want = scrub.Report{}
		for n := range places {
			d.byHand(n, &want)
		}
		c.all(t, want.Right, want.Healed, want.Lost)
		c.sameAs(t, d)
	}
}
