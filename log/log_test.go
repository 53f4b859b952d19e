package log_test

import (
	"bytes"
	"math"
	"math/rand"
	"slices"
	"strconv"
	"testing"

	"erewhile/api"
	"erewhile/cipher"
	"erewhile/device"
	"erewhile/log"
	"erewhile/mirror"
	"erewhile/sector"
	"erewhile/segment"
)

var ours = cipher.Real{}

// other sums otherwise than ours.
type other struct{ cipher.Real }

func (other) Sum(k api.Key, b []byte) api.Sum {
	s := ours.Sum(k, b)
	s[0] ^= 1
	return s
}

// every says so of every sector.
func every(int, api.Sector) bool { return true }

// small is the shape of most tests: the sectors 2, 3; 4, 5; 6, 7; 8, 9.
var small = segment.Shape{Segs: 4, Size: 2}

// set is two devices of one power, and a mirror of them.
type set struct {
	p    *device.Power
	d    [2]*device.Device
	good func(int, api.Sector) bool
	m    *mirror.Mirror
}

func made(s segment.Shape) *set {
	return madeOf(s.Sectors(), s.Sectors(), sector.Good(ours))
}

func madeOf(first, second int, good func(int, api.Sector) bool) *set {
	p := device.NewPower()
	c := &set{p: p, d: [2]*device.Device{device.New(first, p), device.New(second, p)}, good: good}
	c.again()
	return c
}

// again is a new mirror of the same devices.
func (c *set) again() *mirror.Mirror {
	c.m = mirror.New(c.d[0], c.d[1], c.good)
	return c.m
}

// out takes both devices out, or puts them in.
func (c *set) out(on bool) {
	c.d[0].Out(on)
	c.d[1].Out(on)
}

// put writes a sealed sector on one device alone, and flushes it.
func (c *set) put(t *testing.T, i, at int, gen uint64, body string) {
	t.Helper()
	c.lay(t, i, at, seal(t, at, gen, body))
}

func (c *set) lay(t *testing.T, i, at int, s api.Sector) {
	t.Helper()
	if c.d[i].Write(at, s) != api.OK || c.d[i].Flush() != api.OK {
		t.Fatalf("device %d takes nothing at %d", i, at)
	}
}

// both puts the same on both devices.
func (c *set) both(t *testing.T, at int, gen uint64, body string) {
	t.Helper()
	c.put(t, 0, at, gen, body)
	c.put(t, 1, at, gen, body)
}

// rot spoils the sector on the device.
func (c *set) rot(t *testing.T, i, at int) {
	t.Helper()
	if !c.d[i].Rot(at, 30, 1) {
		t.Fatalf("device %d has no sector %d to rot", i, at)
	}
}

// waits asks how many writes wait on each device.
func (c *set) waits(t *testing.T, first, second int) {
	t.Helper()
	if a, b := c.d[0].Waiting(), c.d[1].Waiting(); a != first || b != second {
		t.Fatalf("%d and %d writes wait, not %d and %d", a, b, first, second)
	}
}

// reads asks what the device reads there.
func (c *set) reads(t *testing.T, i, at int, want api.Sector) {
	t.Helper()
	if s, e := c.d[i].Read(at); s != want || e != api.OK {
		t.Fatalf("device %d reads at %d: %v, %v", i, at, s, e)
	}
}

func seal(t *testing.T, at int, gen uint64, body string) api.Sector {
	t.Helper()
	s, ok := sector.Pack(ours, at, gen, []byte(body))
	if !ok {
		t.Fatalf("no sealed sector at %d of %q", at, body)
	}
	return s
}

func fresh(t *testing.T, c *set, s segment.Shape) *log.Log {
	t.Helper()
	l, e := log.New(c.m, ours, s)
	if l == nil || e != api.OK {
		t.Fatalf("New = %v, %v", l, e)
	}
	return l
}

// opened is the log that Open tells of a new mirror.
func opened(t *testing.T, c *set, s segment.Shape) (*log.Log, []log.Found) {
	t.Helper()
	l, found, e := log.Open(c.again(), ours, s)
	if l == nil || e != api.OK {
		t.Fatalf("Open = %v, %v, %v", l, found, e)
	}
	return l, found
}

func appends(t *testing.T, l *log.Log, body string, want int) {
	t.Helper()
	if at, e := l.Append([]byte(body)); at != want || e != api.OK {
		t.Fatalf("Append(%q) = %d, %v, not %d", body, at, e, want)
	}
}

func noAppend(t *testing.T, l *log.Log, body []byte, want api.Errno) {
	t.Helper()
	if at, e := l.Append(body); at != 0 || e != want {
		t.Fatalf("Append of %d bytes = %d, %v, not %v", len(body), at, e, want)
	}
}

// filled is a log with a body in each slot: a, b, c and so on.
func filled(t *testing.T, c *set, s segment.Shape) *log.Log {
	t.Helper()
	l := fresh(t, c, s)
	for i := range s.Segs * s.Size {
		appends(t, l, letter(i), 2+i)
	}
	flush(t, l)
	return l
}

func letter(i int) string { return string([]byte{'a' + byte(i)}) }

func flush(t *testing.T, l *log.Log) {
	t.Helper()
	if e := l.Flush(); e != api.OK {
		t.Fatalf("Flush() = %v", e)
	}
}

func tells(t *testing.T, l *log.Log, at int, want string) {
	t.Helper()
	if b, e := l.Read(at); string(b) != want || e != api.OK {
		t.Fatalf("Read(%d) = %q, %v, not %q", at, b, e, want)
	}
}

func noRead(t *testing.T, l *log.Log, at int, want api.Errno) {
	t.Helper()
	if b, e := l.Read(at); len(b) != 0 || e != want {
		t.Fatalf("Read(%d) = %q, %v, not %v", at, b, e, want)
	}
}

func free(t *testing.T, l *log.Log, seg int, want api.Errno) {
	t.Helper()
	if e := l.Free(seg); e != want {
		t.Fatalf("Free(%d) = %v, not %v", seg, e, want)
	}
}

func head(t *testing.T, l *log.Log, seg, slot int) {
	t.Helper()
	if a, b := l.Head(); a != seg || b != slot {
		t.Fatalf("Head() = %d, %d, not %d, %d", a, b, seg, slot)
	}
}

func room(t *testing.T, l *log.Log, want int) {
	t.Helper()
	if n := l.Room(); n != want {
		t.Fatalf("Room() = %d, not %d", n, want)
	}
}

// gens asks for the generations of the first segments.
func gens(t *testing.T, l *log.Log, want ...uint64) {
	t.Helper()
	for seg, gen := range want {
		if g := l.Gen(seg); g != gen {
			t.Fatalf("Gen(%d) = %d, not %d", seg, g, gen)
		}
	}
}

// state is all that a log tells of itself.
type state struct {
	gens            [api.MaxSegs]uint64
	seg, slot, room int
}

func stateOf(l *log.Log) (x state) {
	for seg := range x.gens {
		x.gens[seg] = l.Gen(seg)
	}
	x.seg, x.slot = l.Head()
	x.room = l.Room()
	return x
}

func same(t *testing.T, l *log.Log, want state) {
	t.Helper()
	if x := stateOf(l); x != want {
		t.Fatalf("the log is at %v, not at %v", x, want)
	}
}

// alike asks whether two lists of what was found are the same.
func alike(a, b []log.Found) bool {
	return slices.EqualFunc(a, b, func(x, y log.Found) bool {
		return x.At == y.At && x.Gen == y.Gen && bytes.Equal(x.Body, y.Body)
	})
}

func finds(t *testing.T, found []log.Found, want ...log.Found) {
	t.Helper()
	if !alike(found, want) {
		t.Fatalf("found %v, not %v", found, want)
	}
}

func one(at int, gen uint64, body string) log.Found {
	return log.Found{At: at, Gen: gen, Body: []byte(body)}
}

// far are numbers that are no segments and no sectors of a small shape, some of which are like one in their last bits.
func far() []int {
	return []int{
		-1, -2, -64, -4096, math.MinInt32, -1 << 32, -1<<32 + 2, math.MinInt, math.MinInt + 2,
		64, 2050, 4096, math.MaxInt32, 1 << 32, 1<<32 + 1, 1<<32 + 2, 1 << 62, math.MaxInt - 1, math.MaxInt,
	}
}

// edges are shapes that may be, around the ends.
func edges() []segment.Shape {
	return []segment.Shape{{Segs: 3, Size: 1}, {Segs: 3, Size: 32}, {Segs: 4, Size: 2}, {Segs: 64, Size: 1}, {Segs: 64, Size: 32}}
}

// P15.1

func TestNewTellsALogOfFreeSegments(t *testing.T) {
	for _, s := range edges() {
		c := made(s)
		l := fresh(t, c, s)
		head(t, l, -1, 0)
		room(t, l, s.Segs*s.Size)
		for seg := range s.Segs {
			gens(t, l, make([]uint64, s.Segs)...)
			free(t, l, seg, api.ErrState)
		}
		for at := range s.Sectors() {
			noRead(t, l, at, api.ErrRange)
		}
		appends(t, l, "first", 2)
		gens(t, l, 1, 0)
	}
}

func TestNewAsksNothingOfTheDevices(t *testing.T) {
	c := made(small)
	c.p.Fail(0)
	fresh(t, c, small)
	if !c.p.On() {
		t.Fatal("New was an operation")
	}
	c.p.Fail(-1)
	c.waits(t, 0, 0)
	c.out(true)
	fresh(t, c, small)
	c.out(false)
	c.p.Fail(0)
	c.d[0].Flush()
	fresh(t, c, small)
}

func TestNewKnowsNothingOfWhatStandsThere(t *testing.T) {
	c := made(small)
	filled(t, c, small)
	l := fresh(t, c, small)
	head(t, l, -1, 0)
	room(t, l, 8)
	gens(t, l, 0, 0, 0, 0)
	appends(t, l, "new", 2)
	gens(t, l, 1, 0, 0, 0)
	tells(t, l, 2, "new")
	// What stood in the slot behind it has the generation of the segment by chance: New promises nothing else.
	tells(t, l, 3, "b")
}

// refused asks New and Open for the same error.
func refused(t *testing.T, m *mirror.Mirror, c api.Cipher, s segment.Shape, want api.Errno) {
	t.Helper()
	if l, e := log.New(m, c, s); l != nil || e != want {
		t.Errorf("New of %v = %v, %v, not %v", s, l, e, want)
	}
	if l, found, e := log.Open(m, c, s); l != nil || len(found) != 0 || e != want {
		t.Errorf("Open of %v = %v, %v, %v, not %v", s, l, found, e, want)
	}
}

func TestErrorsOfNewAndOpen(t *testing.T) {
	wrong := segment.Shape{Segs: 2, Size: 2}
	c := made(small)
	filled(t, c, small)
	for _, down := range []bool{false, true} {
		c.out(down)
		refused(t, nil, ours, small, api.ErrArg)
		refused(t, c.m, nil, small, api.ErrArg)
		refused(t, nil, nil, small, api.ErrArg)
		refused(t, nil, ours, wrong, api.ErrArg)
		refused(t, c.m, nil, wrong, api.ErrArg)
		refused(t, c.m, ours, segment.Shape{Segs: 5, Size: 2}, api.ErrRange)
		refused(t, c.m, ours, segment.Shape{Segs: 3, Size: 3}, api.ErrRange)
		refused(t, mirror.New(nil, c.d[1], nil), ours, small, api.ErrRange)
		refused(t, mirror.New(nil, nil, nil), ours, wrong, api.ErrRange)
		for _, s := range []segment.Shape{
			{}, wrong, {Segs: 65, Size: 1}, {Segs: 3}, {Segs: 3, Size: 33}, {Segs: -4, Size: -2}, {Segs: 4, Size: -2},
			{Segs: math.MaxInt, Size: math.MaxInt}, {Segs: math.MinInt, Size: math.MinInt}, {Segs: 1 << 62, Size: 4},
		} {
			refused(t, c.m, ours, s, api.ErrRange)
		}
	}
}

func TestNewAndOpenAskForAsManyPlaces(t *testing.T) {
	for _, s := range edges() {
		n := s.Sectors()
		for _, sizes := range [][2]int{{n - 1, n - 1}, {n - 1, n}, {n, n - 1}, {0, n}, {api.MaxSectors, n - 1}} {
			refused(t, madeOf(sizes[0], sizes[1], sector.Good(ours)).m, ours, s, api.ErrRange)
		}
		for _, sizes := range [][2]int{{n, n}, {n, n + 1}, {api.MaxSectors, n}, {api.MaxSectors, api.MaxSectors}} {
			c := madeOf(sizes[0], sizes[1], sector.Good(ours))
			filled(t, c, s)
			l, found := opened(t, c, s)
			if len(found) != n-2 {
				t.Fatalf("%d found, not %d", len(found), n-2)
			}
			room(t, l, 0)
		}
	}
}

// P15.2

func TestTheExample(t *testing.T) {
	l := fresh(t, made(small), small)
	for i, body := range []string{"a", "b", "c"} {
		appends(t, l, body, 2+i)
	}
	gens(t, l, 1, 2, 0, 0)
	head(t, l, 1, 1)
	room(t, l, 1+4)
}

func TestAppendGoesSlotBySlot(t *testing.T) {
	for _, s := range edges() {
		l := fresh(t, made(s), s)
		for i := range s.Segs * s.Size {
			appends(t, l, strconv.Itoa(i), 2+i)
			seg := i / s.Size
			head(t, l, seg, i%s.Size+1)
			room(t, l, s.Segs*s.Size-i-1)
			for other := range s.Segs {
				want := uint64(other + 1)
				if other > seg {
					want = 0
				}
				if g := l.Gen(other); g != want {
					t.Fatalf("Gen(%d) = %d, not %d", other, g, want)
				}
			}
		}
		noAppend(t, l, nil, api.ErrFull)
		for i := range s.Segs * s.Size {
			tells(t, l, 2+i, strconv.Itoa(i))
		}
	}
}

func TestAppendWritesTheSealedSectorOnBothDevices(t *testing.T) {
	c := made(small)
	l := fresh(t, c, small)
	for i := range 8 {
		before := [2][]api.Sector{c.d[0].Dump(), c.d[1].Dump()}
		appends(t, l, letter(i), 2+i)
		c.waits(t, 1, 1)
		for k, d := range c.d {
			if !slices.Equal(d.Dump(), before[k]) {
				t.Fatalf("Append of body %d flushed device %d", i, k)
			}
			c.reads(t, k, 2+i, seal(t, 2+i, uint64(i/2+1), letter(i)))
			for at := range small.Sectors() {
				if at != 2+i {
					c.reads(t, k, at, before[k][at])
				}
			}
		}
		flush(t, l)
	}
}

func TestAppendOfEachSize(t *testing.T) {
	s := segment.Shape{Segs: 4, Size: 32}
	l := fresh(t, made(s), s)
	for size := range api.BodySize + 1 {
		body := bytes.Repeat([]byte{byte(size)}, size)
		appends(t, l, string(body), 2+size)
		tells(t, l, 2+size, string(body))
	}
	before := stateOf(l)
	for _, size := range []int{104, 105, 127, 128, 255, 256, 256 + 3, 65536, 65536 + 3} {
		noAppend(t, l, make([]byte, size), api.ErrForm)
	}
	same(t, l, before)
}

func TestAppendTakesTheLeastFreeSegment(t *testing.T) {
	l := filled(t, made(small), small)
	free(t, l, 2, api.OK)
	free(t, l, 1, api.OK)
	appends(t, l, "i", 4)
	gens(t, l, 1, 5, 0, 4)
	head(t, l, 1, 1)
	free(t, l, 0, api.OK)
	free(t, l, 3, api.OK)
	// The head's slots come ahead of any free segment.
	appends(t, l, "j", 5)
	head(t, l, 1, 2)
	appends(t, l, "k", 2)
	gens(t, l, 6, 5, 0, 0)
	appends(t, l, "l", 3)
	appends(t, l, "m", 6)
	gens(t, l, 6, 5, 7, 0)
	head(t, l, 2, 1)
	room(t, l, 3)
	appends(t, l, "n", 7)
	appends(t, l, "o", 8)
	appends(t, l, "p", 9)
	gens(t, l, 6, 5, 7, 8)
	noAppend(t, l, nil, api.ErrFull)
	for i, want := range []string{"k", "l", "i", "j", "m", "n", "o", "p"} {
		tells(t, l, 2+i, want)
	}
}

func TestGenerationsGoOnAndOn(t *testing.T) {
	s := segment.Shape{Segs: 3, Size: 1}
	l := fresh(t, made(s), s)
	for i := range 300 {
		seg := i % 3
		if i >= 3 {
			free(t, l, seg, api.OK)
		}
		appends(t, l, strconv.Itoa(i), 2+seg)
		if g := l.Gen(seg); g != uint64(i+1) {
			t.Fatalf("generation %d, not %d", g, i+1)
		}
	}
}

func TestErrorsOfAppendInTheirOrder(t *testing.T) {
	long := make([]byte, 104)
	var none *log.Log
	noAppend(t, none, nil, api.ErrArg)
	noAppend(t, none, long, api.ErrArg)
	c := made(small)
	l := filled(t, c, small)
	noAppend(t, l, long, api.ErrForm)
	c.out(true)
	noAppend(t, l, long, api.ErrForm)
	noAppend(t, l, make([]byte, 103), api.ErrFull)
	free(t, l, 0, api.OK)
	noAppend(t, l, long, api.ErrForm)
	noAppend(t, l, make([]byte, 103), api.ErrDown)
	c.out(false)
	appends(t, l, "i", 2)
}

func TestAppendThatFailsChangesNothing(t *testing.T) {
	for many := range 8 {
		c := made(small)
		l := fresh(t, c, small)
		for i := range many {
			appends(t, l, letter(i), 2+i)
		}
		flush(t, l)
		before, dump := stateOf(l), c.d[0].Dump()
		noAppend(t, l, make([]byte, 104), api.ErrForm)
		same(t, l, before)
		c.out(true)
		noAppend(t, l, []byte("x"), api.ErrDown)
		same(t, l, before)
		c.out(false)
		c.p.Fail(0)
		noAppend(t, l, []byte("y"), api.ErrDown)
		noAppend(t, l, []byte("z"), api.ErrDown)
		same(t, l, before)
		c.p.Restart()
		c.waits(t, 0, 0)
		if !slices.Equal(c.d[0].Dump(), dump) || !slices.Equal(c.d[1].Dump(), dump) {
			t.Fatalf("behind %d bodies: something was written", many)
		}
		appends(t, l, "w", 2+many)
		if g := l.Gen(many / 2); g != uint64(many/2+1) {
			t.Fatalf("behind %d bodies: generation %d", many, g)
		}
	}
}

func TestAppendToAFullOneChangesNothing(t *testing.T) {
	c := made(small)
	l := filled(t, c, small)
	before := stateOf(l)
	noAppend(t, l, []byte("x"), api.ErrFull)
	same(t, l, before)
	c.waits(t, 0, 0)
}

func TestAppendTellsWhatWriteTells(t *testing.T) {
	c := made(small)
	l := fresh(t, c, small)
	c.d[0].Out(true)
	appends(t, l, "a", 2)
	c.waits(t, 0, 1)
	flush(t, l)
	c.d[0].Out(false)
	c.d[1].Out(true)
	appends(t, l, "b", 3)
	flush(t, l)
	c.d[1].Out(false)
	if a, b := c.m.Stale(); a != 1 || b != 1 {
		t.Fatalf("%d and %d places are stale", a, b)
	}
	tells(t, l, 2, "a")
	tells(t, l, 3, "b")
	// Power that fails at the second device: the mirror's Write tells OK then.
	c.p.Fail(1)
	appends(t, l, "c", 4)
	head(t, l, 1, 1)
	if e := l.Flush(); e != api.ErrDown {
		t.Fatalf("Flush() = %v", e)
	}
}

func TestAppendWritesWhatStandsThereByChance(t *testing.T) {
	c := made(small)
	appends(t, fresh(t, c, small), "a", 2)
	flush(t, fresh(t, c, small))
	l := fresh(t, c, small)
	appends(t, l, "a", 2)
	c.waits(t, 1, 1)
}

func TestAppendKeepsNothingOfTheBody(t *testing.T) {
	l := fresh(t, made(small), small)
	whole := []byte("body, and what is behind")
	body := whole[:4]
	at, e := l.Append(body)
	if at != 2 || e != api.OK || string(whole) != "body, and what is behind" {
		t.Fatalf("Append = %d, %v; the list is %q", at, e, whole)
	}
	clear(whole)
	tells(t, l, 2, "body")
}

func TestAppendSealsByTheCipherThatItWasHanded(t *testing.T) {
	c := madeOf(10, 10, sector.Good(other{}))
	l, e := log.New(c.m, other{}, small)
	if e != api.OK {
		t.Fatal(e)
	}
	appends(t, l, "a", 2)
	tells(t, l, 2, "a")
	want, _ := sector.Pack(other{}, 2, 1, []byte("a"))
	c.reads(t, 0, 2, want)
	c.reads(t, 1, 2, want)
}

func TestFlushIsTheMirrors(t *testing.T) {
	var none *log.Log
	if e := none.Flush(); e != api.ErrArg {
		t.Fatalf("Flush of a nil log = %v", e)
	}
	c := made(small)
	l := fresh(t, c, small)
	flush(t, l)
	appends(t, l, "a", 2)
	appends(t, l, "b", 3)
	flush(t, l)
	c.waits(t, 0, 0)
	for _, d := range c.d {
		if dump := d.Dump(); dump[2] != seal(t, 2, 1, "a") || dump[3] != seal(t, 3, 1, "b") {
			t.Fatal("not flushed")
		}
	}
	c.d[0].Out(true)
	flush(t, l)
	c.d[1].Out(true)
	before := stateOf(l)
	if e := l.Flush(); e != api.ErrDown {
		t.Fatalf("Flush with neither device = %v", e)
	}
	c.d[0].Out(false)
	flush(t, l)
	c.d[1].Out(false)
	c.p.Fail(1)
	if e := l.Flush(); e != api.ErrDown {
		t.Fatalf("Flush at which power fails = %v", e)
	}
	same(t, l, before)
}

// P15.3

func TestReadTellsWhatWaitsAndWhatIsFlushed(t *testing.T) {
	c := made(small)
	l := fresh(t, c, small)
	appends(t, l, "a", 2)
	tells(t, l, 2, "a")
	flush(t, l)
	tells(t, l, 2, "a")
	appends(t, l, "", 3)
	tells(t, l, 3, "")
	c.waits(t, 1, 1)
}

func TestReadTellsNewMemory(t *testing.T) {
	l := fresh(t, made(small), small)
	appends(t, l, "abc", 2)
	b, _ := l.Read(2)
	clear(b)
	_ = append(b, "behind"...)
	tells(t, l, 2, "abc")
}

func TestReadOfWhereNoUsedSegmentIs(t *testing.T) {
	c := made(small)
	l := fresh(t, c, small)
	appends(t, l, "a", 2)
	appends(t, l, "b", 3)
	appends(t, l, "c", 4)
	numbers := append([]int{0, 1, 6, 7, 8, 9, 10, 11}, far()...)
	for _, down := range []bool{false, true} {
		c.out(down)
		for _, at := range numbers {
			noRead(t, l, at, api.ErrRange)
		}
	}
	c.out(false)
	free(t, l, 0, api.OK)
	noRead(t, l, 2, api.ErrRange)
	noRead(t, l, 3, api.ErrRange)
	var none *log.Log
	for _, at := range append(numbers, 2, 3, 4) {
		noRead(t, none, at, api.ErrArg)
	}
}

func TestReadOfPlacesBehindTheShape(t *testing.T) {
	c := madeOf(20, 20, sector.Good(ours))
	l := filled(t, c, small)
	for at := 10; at < 20; at++ {
		c.both(t, at, 1, "x")
		noRead(t, l, at, api.ErrRange)
	}
	c.both(t, 0, 1, "x")
	c.both(t, 1, 1, "x")
	noRead(t, l, 0, api.ErrRange)
	noRead(t, l, 1, api.ErrRange)
}

func TestReadTellsWhatTheMirrorTells(t *testing.T) {
	c := made(small)
	l := filled(t, c, small)
	c.rot(t, 0, 3)
	tells(t, l, 3, "b")
	c.rot(t, 1, 3)
	noRead(t, l, 3, api.ErrLost)
	c.rot(t, 1, 4)
	tells(t, l, 4, "c")
	c.d[0].Out(true)
	noRead(t, l, 4, api.ErrLost)
	tells(t, l, 5, "d")
	c.d[1].Out(true)
	noRead(t, l, 3, api.ErrDown)
	noRead(t, l, 5, api.ErrDown)
	c.out(false)
	c.p.Fail(0)
	noAppend(t, l, nil, api.ErrFull)
	if e := l.Flush(); e != api.ErrDown {
		t.Fatalf("Flush() = %v", e)
	}
	noRead(t, l, 5, api.ErrDown)
	c.p.Restart()
	tells(t, l, 5, "d")
}

func TestReadOfWhatIsNotSealedThere(t *testing.T) {
	c := madeOf(10, 10, every)
	l := fresh(t, c, small)
	appends(t, l, "a", 2)
	flush(t, l)
	noRead(t, l, 3, api.ErrLost) // noughts
	for _, s := range []api.Sector{
		seal(t, 4, 1, "of another place"),
		seal(t, 3, 2, "of a newer generation"),
		seal(t, 3, 0, "of an elder generation"),
		seal(t, 3, 1<<32+1, "of a generation that ends like it"),
		seal(t, 3, 1<<56+1, "of a generation that ends like it"),
		{24: 104},
	} {
		c.lay(t, 0, 3, s)
		noRead(t, l, 3, api.ErrLost)
		// The mirror's good says so of it: what the second one has isn't asked for.
		c.put(t, 1, 3, 1, "b")
		noRead(t, l, 3, api.ErrLost)
	}
	c.put(t, 0, 3, 1, "b")
	tells(t, l, 3, "b")
}

func TestReadByAnotherCipherThanTheMirrors(t *testing.T) {
	c := made(small)
	l, e := log.New(c.m, other{}, small)
	if e != api.OK {
		t.Fatal(e)
	}
	appends(t, l, "a", 2)
	noRead(t, l, 2, api.ErrLost)
	c.both(t, 2, 1, "a")
	noRead(t, l, 2, api.ErrLost)
	none := mirror.New(c.d[0], c.d[1], nil)
	l = fresh(t, &set{m: none}, small)
	appends(t, l, "a", 2)
	noRead(t, l, 2, api.ErrLost)
}

func TestReadOfWhatStoodThereBefore(t *testing.T) {
	l := filled(t, made(small), small)
	free(t, l, 1, api.OK)
	appends(t, l, "i", 4)
	tells(t, l, 4, "i")
	noRead(t, l, 5, api.ErrLost)
	appends(t, l, "j", 5)
	tells(t, l, 5, "j")
	noAppend(t, l, nil, api.ErrFull)
}

func TestGenOfOthersIsNone(t *testing.T) {
	l := filled(t, made(small), small)
	gens(t, l, 1, 2, 3, 4)
	free(t, l, 2, api.OK)
	gens(t, l, 1, 2, 0, 4)
	for _, seg := range append([]int{4, 5, 63}, far()...) {
		if g := l.Gen(seg); g != 0 {
			t.Fatalf("Gen(%d) = %d", seg, g)
		}
	}
}

func TestErrorsOfFree(t *testing.T) {
	var none *log.Log
	for _, seg := range append([]int{0, 1}, far()...) {
		free(t, none, seg, api.ErrArg)
	}
	l := fresh(t, made(small), small)
	appends(t, l, "a", 2)
	free(t, l, 0, api.ErrBusy)
	appends(t, l, "b", 3)
	free(t, l, 0, api.ErrBusy) // the head, full as it is
	appends(t, l, "c", 4)
	before := stateOf(l)
	for _, seg := range append([]int{4, 5, 63}, far()...) {
		free(t, l, seg, api.ErrRange)
	}
	free(t, l, 2, api.ErrState)
	free(t, l, 3, api.ErrState)
	free(t, l, 1, api.ErrBusy)
	same(t, l, before)
	free(t, l, 0, api.OK)
	free(t, l, 0, api.ErrState)
	gens(t, l, 0, 2, 0, 0)
	head(t, l, 1, 1)
	room(t, l, 1+6)
}

func TestFreeWritesNothing(t *testing.T) {
	c := made(small)
	l := filled(t, c, small)
	dump := c.d[0].Dump()
	c.p.Fail(0)
	for seg := range 3 {
		free(t, l, seg, api.OK)
	}
	if !c.p.On() {
		t.Fatal("Free was an operation")
	}
	c.waits(t, 0, 0)
	if !slices.Equal(c.d[0].Dump(), dump) || !slices.Equal(c.d[1].Dump(), dump) {
		t.Fatal("Free wrote something")
	}
	gens(t, l, 0, 0, 0, 4)
	head(t, l, 3, 2)
	room(t, l, 6)
	// So it is found again till something else is written there.
	c.p.Fail(-1)
	n, found := opened(t, c, small)
	if len(found) != 8 {
		t.Fatalf("%d found", len(found))
	}
	gens(t, n, 1, 2, 3, 4)
	room(t, n, 0)
}

func TestFreeWithoutPower(t *testing.T) {
	c := made(small)
	l := filled(t, c, small)
	c.out(true)
	free(t, l, 1, api.OK)
	noRead(t, l, 4, api.ErrRange)
	room(t, l, 2)
}

func TestRoomCountsTheHeadsAndTheFree(t *testing.T) {
	s := segment.Shape{Segs: 5, Size: 3}
	l := fresh(t, made(s), s)
	room(t, l, 15)
	for i := range 7 {
		appends(t, l, "x", 2+i)
	}
	head(t, l, 2, 1)
	room(t, l, 2+6)
	free(t, l, 1, api.OK)
	room(t, l, 2+9)
	free(t, l, 0, api.OK)
	room(t, l, 2+12)
	for n := 13; n >= 0; n-- {
		if _, e := l.Append(nil); e != api.OK {
			t.Fatalf("Append = %v with room for %d", e, n+1)
		}
		room(t, l, n)
	}
	noAppend(t, l, nil, api.ErrFull)
}

func TestNilLog(t *testing.T) {
	var l *log.Log
	head(t, l, -1, 0)
	room(t, l, 0)
	for _, seg := range append([]int{0, 1, 2}, far()...) {
		if g := l.Gen(seg); g != 0 {
			t.Fatalf("Gen(%d) = %d", seg, g)
		}
	}
}

// P15.4

func TestOpenOfNothing(t *testing.T) {
	for _, s := range edges() {
		c := made(s)
		l, found := opened(t, c, s)
		finds(t, found)
		head(t, l, -1, 0)
		room(t, l, s.Segs*s.Size)
		free(t, l, 0, api.ErrState)
		appends(t, l, "a", 2)
		gens(t, l, 1, 0)
	}
}

func TestOpenTellsTheLogThatWasThere(t *testing.T) {
	for many := range 9 {
		c := made(small)
		l := fresh(t, c, small)
		var want []log.Found
		for i := range many {
			appends(t, l, letter(i), 2+i)
			want = append(want, one(2+i, uint64(i/2+1), letter(i)))
		}
		flush(t, l)
		n, found := opened(t, c, small)
		finds(t, found, want...)
		same(t, n, stateOf(l))
		for i := range many {
			tells(t, n, 2+i, letter(i))
		}
		if many < 8 {
			appends(t, n, "next", 2+many)
			if g := n.Gen(many / 2); g != uint64(many/2+1) {
				t.Fatalf("generation %d behind %d bodies", g, many)
			}
		} else {
			noAppend(t, n, nil, api.ErrFull)
		}
	}
}

func TestOpenFindsWhatHasAnotherGenerationToo(t *testing.T) {
	c := made(small)
	l := filled(t, c, small)
	free(t, l, 1, api.OK)
	appends(t, l, "i", 4)
	flush(t, l)
	n, found := opened(t, c, small)
	finds(t, found, one(2, 1, "a"), one(3, 1, "b"), one(5, 2, "d"), one(6, 3, "e"), one(7, 3, "f"), one(8, 4, "g"), one(9, 4, "h"), one(4, 5, "i"))
	gens(t, n, 1, 5, 3, 4)
	head(t, n, 1, 1)
	room(t, n, 1)
	noRead(t, n, 5, api.ErrLost)
	free(t, n, 1, api.ErrBusy)
	appends(t, n, "j", 5)
	tells(t, n, 5, "j")
}

func TestOpenPutsWhatWasFoundInOrder(t *testing.T) {
	s := segment.Shape{Segs: 4, Size: 3}
	c := made(s)
	for at, gen := range []uint64{2: 9, 3: 2, 4: 9, 5: 1, 6: 0, 7: math.MaxUint64, 8: 2, 9: 1 << 63, 10: 2, 11: 1 << 32, 12: 5, 13: 1} {
		if at > 1 {
			c.both(t, at, gen, strconv.Itoa(at))
		}
	}
	l, found := opened(t, c, s)
	var order []int
	for _, f := range found {
		order = append(order, f.At)
		if string(f.Body) != strconv.Itoa(f.At) {
			t.Fatalf("at %d: %q", f.At, f.Body)
		}
	}
	if want := []int{6, 5, 13, 3, 8, 10, 12, 2, 4, 11, 9, 7}; !slices.Equal(order, want) {
		t.Fatalf("the order is %v, not %v", order, want)
	}
	gens(t, l, 9, math.MaxUint64, 1<<63, 1<<32)
	head(t, l, 1, 3)
	room(t, l, 0)
}

func TestOpenTellsTheHead(t *testing.T) {
	s := segment.Shape{Segs: 4, Size: 3}
	// Of each sector from 2 on the generation; 99: there is nothing.
	for _, x := range []struct {
		gens      []uint64
		seg, slot int
		room      int
	}{
		{[]uint64{7, 99, 99}, 0, 1, 2 + 9},
		{[]uint64{99, 7, 99}, 0, 2, 1 + 9},
		{[]uint64{99, 99, 7}, 0, 3, 0 + 9},
		{[]uint64{7, 99, 7}, 0, 3, 0 + 9},
		{[]uint64{7, 6, 99}, 0, 1, 2 + 9},
		{[]uint64{6, 7, 6}, 0, 2, 1 + 9},
		{[]uint64{7, 7, 8}, 0, 3, 0 + 9},
		{[]uint64{8, 7, 7}, 0, 1, 2 + 9},
		{[]uint64{0, 99, 99}, 0, 1, 2 + 9},
		{[]uint64{0, 0, 99}, 0, 2, 1 + 9},
		{[]uint64{99, 99, 99, 0, 99, 99}, 1, 1, 2 + 9},
		{[]uint64{0, 0, 99, 0, 0, 0}, 0, 2, 1 + 6},
		{[]uint64{0, 0, 0, 1, 99, 99}, 1, 1, 2 + 6},
		{[]uint64{1, 1, 1, 0, 0, 0}, 0, 3, 0 + 6},
		{[]uint64{7, 99, 99, 7, 7, 99}, 0, 1, 2 + 6},
		{[]uint64{6, 99, 99, 7, 99, 99, 7, 7, 7}, 1, 1, 2 + 3},
		{[]uint64{6, 99, 99, 99, 99, 7, 7, 7, 7}, 1, 3, 0 + 3},
		{[]uint64{9, 9, 8, 9, 9, 9, 99, 99, 99, 3, 99, 99}, 0, 2, 1 + 3},
		{[]uint64{1, 99, 99, 2, 99, 99, 3, 99, 99, 4, 4, 99}, 3, 2, 1},
		{[]uint64{4, 99, 99, 3, 99, 99, 2, 99, 99, 1, 1, 99}, 0, 1, 2},
		{[]uint64{1, 2, 3, 3, 1, 2, 2, 3, 1, 3, 3, 3}, 0, 3, 0},
		{[]uint64{1, 2, 1, 3, 1, 2, 2, 3, 1, 3, 3, 3}, 1, 1, 2},
		{[]uint64{math.MaxUint64, 1, 2, math.MaxUint64 - 1, 1, 2}, 0, 1, 2 + 6},
		{[]uint64{1 << 32, 5, 6, 7}, 0, 1, 2 + 6},
	} {
		c := made(s)
		most := make([]uint64, s.Segs)
		for i, gen := range x.gens {
			if gen != 99 {
				c.both(t, 2+i, gen, letter(i))
				most[i/3] = max(most[i/3], gen)
			}
		}
		l, _ := opened(t, c, s)
		if seg, slot := l.Head(); seg != x.seg || slot != x.slot {
			t.Errorf("%v: Head() = %d, %d, not %d, %d", x.gens, seg, slot, x.seg, x.slot)
		}
		room(t, l, x.room)
		gens(t, l, most...)
		free(t, l, x.seg, api.ErrBusy)
	}
}

func TestASegmentOfGenerationNoughtIsUsed(t *testing.T) {
	c := made(small)
	c.both(t, 4, 0, "x")
	c.both(t, 6, 1, "y")
	l, found := opened(t, c, small)
	finds(t, found, one(4, 0, "x"), one(6, 1, "y"))
	gens(t, l, 0, 0, 1, 0)
	room(t, l, 1+4)
	tells(t, l, 4, "x")
	noRead(t, l, 2, api.ErrRange)
	free(t, l, 0, api.ErrState)
	free(t, l, 1, api.OK)
	noRead(t, l, 4, api.ErrRange)
	room(t, l, 1+6)
}

func TestReadOfGenerationNoughtTellsSealedSectorsAlone(t *testing.T) {
	c := madeOf(10, 10, every)
	c.both(t, 4, 0, "x")
	l, _ := opened(t, c, small)
	tells(t, l, 4, "x")
	noRead(t, l, 5, api.ErrLost) // noughts
	c.lay(t, 0, 5, api.Sector{1, 2, 3})
	noRead(t, l, 5, api.ErrLost)
}

func TestAppendBehindOpenIsOfTheNextGeneration(t *testing.T) {
	c := made(small)
	c.both(t, 7, 41, "x")
	c.both(t, 2, 12, "y")
	l, _ := opened(t, c, small)
	head(t, l, 2, 2)
	appends(t, l, "z", 4)
	gens(t, l, 12, 42, 41, 0)
	free(t, l, 2, api.OK)
	free(t, l, 0, api.OK)
	appends(t, l, "w", 5)
	appends(t, l, "v", 2)
	gens(t, l, 43, 42, 0, 0)
}

func TestAppendBehindTheGreatestOfAllGenerations(t *testing.T) {
	c := made(small)
	c.both(t, 2, math.MaxUint64, "x")
	l, _ := opened(t, c, small)
	appends(t, l, "y", 3)
	tells(t, l, 3, "y")
	gens(t, l, math.MaxUint64)
	appends(t, l, "z", 4)
	tells(t, l, 4, "z")
	room(t, l, 1+4)
}

func TestOpenTakesTheGreatestGenerationOfBoth(t *testing.T) {
	for _, first := range []uint64{0, 1, 2, 1 << 32, 1 << 63, math.MaxUint64} {
		for _, second := range []uint64{0, 1, 2, 1 << 32, 1 << 63, math.MaxUint64} {
			c := made(small)
			c.put(t, 0, 5, first, "first")
			c.put(t, 1, 5, second, "second")
			_, found := opened(t, c, small)
			want := one(5, first, "first")
			if second > first {
				want = one(5, second, "second")
			}
			finds(t, found, want)
			c.waits(t, 0, 0)
			for i := range c.d {
				c.reads(t, i, 5, seal(t, 5, want.Gen, string(want.Body)))
			}
		}
	}
}

func TestOpenTakesWhatOneDeviceHas(t *testing.T) {
	for i := range 2 {
		for _, good := range []func(int, api.Sector) bool{sector.Good(ours), every} {
			c := madeOf(10, 10, good)
			c.put(t, i, 2, 1, "a")
			c.both(t, 3, 1, "b")
			c.rot(t, 1-i, 3)
			c.both(t, 4, 2, "c")
			c.rot(t, 0, 4)
			c.rot(t, 1, 4)
			lost := [2]api.Sector{c.d[0].Dump()[4], c.d[1].Dump()[4]}
			l, found := opened(t, c, small)
			finds(t, found, one(2, 1, "a"), one(3, 1, "b"))
			gens(t, l, 1, 0, 0, 0)
			c.waits(t, 0, 0)
			for k, d := range c.d {
				dump := d.Dump()
				if dump[2] != seal(t, 2, 1, "a") || dump[3] != seal(t, 3, 1, "b") || dump[4] != lost[k] {
					t.Fatalf("device %d hasn't what was found", k)
				}
			}
		}
	}
}

func TestOpenFindsNothingThatIsNotSealedThere(t *testing.T) {
	c := madeOf(10, 10, every)
	c.lay(t, 0, 2, seal(t, 3, 5, "of another place"))
	c.lay(t, 1, 2, api.Sector{1, 2, 3})
	strange, _ := sector.Pack(other{}, 4, 9, []byte("by another cipher"))
	c.lay(t, 0, 4, strange)
	c.put(t, 1, 4, 3, "ours")
	l, found := opened(t, c, small)
	finds(t, found, one(4, 3, "ours"))
	gens(t, l, 0, 3, 0, 0)
	c.reads(t, 0, 4, seal(t, 4, 3, "ours"))
	c.reads(t, 0, 2, seal(t, 3, 5, "of another place"))
	c.reads(t, 1, 2, api.Sector{1, 2, 3})
}

func TestOpenFindsNothingOfWhichGoodDoesNotSaySo(t *testing.T) {
	for _, good := range []func(int, api.Sector) bool{nil, sector.Good(other{})} {
		c := madeOf(10, 10, good)
		c.both(t, 2, 1, "a")
		c.put(t, 0, 3, 1, "b")
		l, found := opened(t, c, small)
		finds(t, found)
		head(t, l, -1, 0)
		c.reads(t, 1, 3, api.Sector{})
	}
}

func TestOpenLooksAtSegmentsAlone(t *testing.T) {
	c := madeOf(20, 20, sector.Good(ours))
	filled(t, c, small)
	for _, at := range []int{0, 1, 10, 11, 19} {
		c.put(t, 0, at, 50, "elsewhere")
		c.put(t, 1, at, 60, "and there")
	}
	c.p.Fail(2)
	l, found := opened(t, c, small)
	if !c.p.On() || len(found) != 8 {
		t.Fatalf("%d found", len(found))
	}
	gens(t, l, 1, 2, 3, 4)
	for _, at := range []int{0, 1, 10, 11, 19} {
		c.reads(t, 0, at, seal(t, at, 50, "elsewhere"))
		c.reads(t, 1, at, seal(t, at, 60, "and there"))
	}
}

func TestOpenWithOneDevice(t *testing.T) {
	for i := range 2 {
		c := made(small)
		filled(t, c, small)
		c.put(t, 1-i, 2, 9, "elsewhere")
		c.d[1-i].Out(true)
		l, found := opened(t, c, small)
		if len(found) != 8 {
			t.Fatalf("%d found", len(found))
		}
		gens(t, l, 1, 2, 3, 4)
		tells(t, l, 2, "a")
		c.d[1-i].Out(false)
		c.reads(t, 1-i, 2, seal(t, 2, 9, "elsewhere"))
	}
}

func TestOpenChoosesWhatItFinds(t *testing.T) {
	for i := range 2 {
		c := made(small)
		l := fresh(t, c, small)
		for k := range 5 {
			appends(t, l, letter(k), 2+k)
		}
		flush(t, l)
		m := c.again()
		c.d[i].Out(true)
		if _, found, e := log.Open(m, ours, small); e != api.OK || len(found) != 5 {
			t.Fatalf("Open = %v, %v", found, e)
		}
		// Of the device that was out the places that were chosen are stale, and no others.
		a, b := m.Stale()
		if stale := [2]int{a, b}; stale[i] != 5 || stale[1-i] != 0 {
			t.Fatalf("%v are stale", stale)
		}
		c.d[i].Out(false)
		if _, found, e := log.Open(m, ours, small); e != api.OK || len(found) != 5 {
			t.Fatalf("Open = %v, %v", found, e)
		}
		if a, b := m.Stale(); a != 0 || b != 0 {
			t.Fatalf("%d and %d are stale", a, b)
		}
	}
}

func TestOpenFindsStaleOnesToo(t *testing.T) {
	c := made(small)
	c.d[0].Out(true)
	c.again()
	c.d[0].Out(false)
	c.put(t, 0, 2, 3, "newer")
	c.put(t, 1, 2, 2, "elder")
	_, found, e := log.Open(c.m, ours, small)
	if e != api.OK {
		t.Fatal(e)
	}
	finds(t, found, one(2, 3, "newer"))
}

func TestOpenWithNeither(t *testing.T) {
	down := func(c *set) {
		t.Helper()
		if l, found, e := log.Open(c.m, ours, small); l != nil || len(found) != 0 || e != api.ErrDown {
			t.Fatalf("Open = %v, %v, %v", l, found, e)
		}
	}
	c := made(small)
	filled(t, c, small)
	c.out(true)
	down(c)
	c.again()
	down(c)
	c.out(false)
	c.p.Fail(0)
	c.d[0].Flush()
	down(c)
	c.p.Restart()
	if _, found := opened(t, c, small); len(found) != 8 {
		t.Fatalf("%d found", len(found))
	}
}

// apart is a set at each device of which another body was found: the first one's, or the second one's, is to be chosen, in turn.
func apart(t *testing.T) *set {
	t.Helper()
	c := made(small)
	for i := range 8 {
		c.put(t, 0, 2+i, uint64(i/2*2+1+i%2), letter(i))
		c.put(t, 1, 2+i, uint64(i/2*2+2-i%2), letter(20+i))
	}
	return c
}

func TestOpenWritesSlotBySlotAndFlushesBehindAll(t *testing.T) {
	// 8 slots of which one device has an elder one, and the flush of each device.
	for after := range 11 {
		c := apart(t)
		c.p.Fail(after)
		c.d[0].Tear(api.MaxSectors, 0)
		c.d[1].Tear(api.MaxSectors, 0)
		l, found, e := log.Open(c.m, ours, small)
		if after == 10 {
			if l == nil || e != api.OK || len(found) != 8 || !c.p.On() {
				t.Fatalf("Open = %v, %v, %v", l, found, e)
			}
			c.waits(t, 0, 0)
			continue
		}
		if l != nil || len(found) != 0 || e != api.ErrDown || c.p.On() {
			t.Fatalf("power fails behind %d operations: Open = %v, %v, %v", after, l, found, e)
		}
		// What was chosen till then was written, slot by slot, to the device that had the elder one; where power fails at a write, that one is torn, and here kept as a whole.
		for i := range 8 {
			want, device := seal(t, 2+i, uint64(i/2*2+2), letter(20+i)), 0
			if i%2 == 1 {
				want, device = seal(t, 2+i, uint64(i/2*2+2), letter(i)), 1
			}
			if got := c.d[device].Dump()[2+i] == want; got != (i <= after) {
				t.Fatalf("power fails behind %d operations: slot %d was written: %v", after, i, got)
			}
			if c.d[1-device].Dump()[2+i] != want {
				t.Fatalf("power fails behind %d operations: slot %d was spoiled", after, i)
			}
		}
		c.p.Restart()
		if _, found := opened(t, c, small); len(found) != 8 {
			t.Fatalf("%d found behind the failure", len(found))
		}
	}
}

func TestOpenOfWhatIsAlikeWritesNothing(t *testing.T) {
	c := made(small)
	filled(t, c, small)
	c.p.Fail(2)
	opened(t, c, small)
	if !c.p.On() {
		t.Fatal("Open was more than two flushes")
	}
}

// powers is a set each device of which has a power of its own.
func powers(t *testing.T) (*set, [2]*device.Power) {
	t.Helper()
	p := [2]*device.Power{device.NewPower(), device.NewPower()}
	c := &set{d: [2]*device.Device{device.New(10, p[0]), device.New(10, p[1])}, good: sector.Good(ours)}
	c.again()
	filled(t, c, small)
	return c, p
}

func TestOpenLetsWhatChooseTellsAside(t *testing.T) {
	for i := range 2 {
		c, p := powers(t)
		c.put(t, 1-i, 4, 7, "newer")
		p[i].Fail(0)
		l, found := opened(t, c, small)
		if p[i].On() || !p[1-i].On() || len(found) != 8 {
			t.Fatalf("%d found", len(found))
		}
		gens(t, l, 1, 7, 3, 4)
		tells(t, l, 4, "newer")
		tells(t, l, 9, "h")
	}
}

func TestOpenTellsWhatFlushTells(t *testing.T) {
	for i := range 2 {
		c, p := powers(t)
		p[i].Fail(0)
		// Power fails at one device's flush: 9's Flush tells ErrDown, though the other one is there.
		if l, found, e := log.Open(c.again(), ours, small); l != nil || len(found) != 0 || e != api.ErrDown {
			t.Fatalf("Open = %v, %v, %v", l, found, e)
		}
		if _, found := opened(t, c, small); len(found) != 8 {
			t.Fatalf("%d found", len(found))
		}
	}
}

func TestWhatIsFoundIsNewMemory(t *testing.T) {
	c := made(small)
	filled(t, c, small)
	l, found := opened(t, c, small)
	before := stateOf(l)
	for i := range found {
		clear(found[i].Body)
		_ = append(found[i].Body, "behind"...)
		found[i].At, found[i].Gen = 0, 99
	}
	same(t, l, before)
	for i := range 8 {
		tells(t, l, 2+i, letter(i))
	}
	_, again := opened(t, c, small)
	if len(again) != 8 || string(again[7].Body) != "h" {
		t.Fatalf("found %v", again)
	}
}

func TestTwoLogsOfOneMirror(t *testing.T) {
	c := made(small)
	a, b := fresh(t, c, small), fresh(t, c, small)
	appends(t, a, "a", 2)
	head(t, b, -1, 0)
	room(t, b, 8)
	noRead(t, b, 2, api.ErrRange)
	appends(t, b, "b", 2)
	tells(t, a, 2, "b")
	_, e := log.New(c.m, ours, segment.Shape{Segs: 3, Size: 1})
	if e != api.OK {
		t.Fatal(e)
	}
	tells(t, b, 2, "b")
}

// P15.5

func TestWhatWasFlushedIsFoundBehindAFailure(t *testing.T) {
	for kept := range 4 {
		c := made(small)
		l := fresh(t, c, small)
		for i := range 3 {
			appends(t, l, letter(i), 2+i)
		}
		flush(t, l)
		for i := 3; i < 6; i++ {
			appends(t, l, letter(i), 2+i)
		}
		c.d[0].Tear(0, 20)
		c.d[1].Tear(kept, 1)
		c.p.Fail(0)
		if e := l.Flush(); e != api.ErrDown {
			t.Fatalf("Flush() = %v", e)
		}
		c.p.Restart()
		n, found := opened(t, c, small)
		if len(found) != 3+kept {
			t.Fatalf("%d found, not %d", len(found), 3+kept)
		}
		for i, f := range found {
			finds(t, []log.Found{f}, one(2+i, uint64(i/2+1), letter(i)))
		}
		appends(t, n, "new", 5+kept)
		tells(t, n, 5+kept, "new")
	}
}

func TestWhatWasFreedIsFoundTillItIsUsedAgain(t *testing.T) {
	c := made(small)
	l := filled(t, c, small)
	free(t, l, 0, api.OK)
	n, found := opened(t, c, small)
	finds(t, found[:2], one(2, 1, "a"), one(3, 1, "b"))
	free(t, n, 0, api.OK)
	appends(t, n, "i", 2)
	appends(t, n, "j", 3)
	flush(t, n)
	n, found = opened(t, c, small)
	finds(t, found[:1], one(4, 2, "c"))
	finds(t, found[6:], one(2, 5, "i"), one(3, 5, "j"))
	gens(t, n, 5, 2, 3, 4)
}

// By chance, and against a plain writing down of all.

// plain is what a log must tell: of each sector the generation and the body, and what is used.
type plain struct {
	shape     segment.Shape
	used      []bool
	gen       []uint64
	seg, slot int
	known     uint64
}

func newPlain(s segment.Shape) *plain {
	return &plain{shape: s, used: make([]bool, s.Segs), gen: make([]uint64, s.Segs), seg: -1}
}

// next tells where the next body goes: its sector and generation, or 0 if there is none.
func (p *plain) next() (seg, slot int, gen uint64, ok bool) {
	if p.seg >= 0 && p.slot < p.shape.Size {
		return p.seg, p.slot, p.gen[p.seg], true
	}
	if seg = slices.Index(p.used, false); seg >= 0 {
		return seg, 0, p.known + 1, true
	}
	return 0, 0, 0, false
}

func (p *plain) append() (at int, gen uint64, ok bool) {
	seg, slot, gen, ok := p.next()
	if !ok {
		return 0, 0, false
	}
	p.used[seg], p.gen[seg], p.known = true, gen, max(p.known, gen)
	p.seg, p.slot = seg, slot+1
	return 2 + seg*p.shape.Size + slot, gen, true
}

func (p *plain) free(seg int) api.Errno {
	switch {
	case seg < 0 || seg >= p.shape.Segs:
		return api.ErrRange
	case !p.used[seg]:
		return api.ErrState
	case seg == p.seg:
		return api.ErrBusy
	}
	p.used[seg], p.gen[seg] = false, 0
	return api.OK
}

func (p *plain) state() (x state) {
	copy(x.gens[:], p.gen)
	x.seg, x.slot = p.seg, p.slot
	if p.seg >= 0 {
		x.room = p.shape.Size - p.slot
	}
	for _, used := range p.used {
		if !used {
			x.room += p.shape.Size
		}
	}
	return x
}

// plainOpen tells what is to be found of what each device reads (nil: it isn't there), sector by sector, and what is known then.
func plainOpen(s segment.Shape, reads [2][]api.Sector) (*plain, []log.Found) {
	p := newPlain(s)
	var all []log.Found
	for at := 2; at < s.Sectors(); at++ {
		var best *log.Found
		for _, l := range reads {
			if l == nil {
				continue
			}
			gen, body, ok := sector.Unpack(ours, at, l[at])
			if ok && (best == nil || best.Gen < gen) {
				best = &log.Found{At: at, Gen: gen, Body: body}
			}
		}
		if best != nil {
			all = append(all, *best)
		}
	}
	for _, f := range all {
		seg := (f.At - 2) / s.Size
		p.used[seg], p.gen[seg], p.known = true, max(p.gen[seg], f.Gen), max(p.known, f.Gen)
	}
	for seg := s.Segs - 1; seg >= 0; seg-- {
		if p.used[seg] && p.gen[seg] == p.known {
			p.seg = seg
		}
	}
	for _, f := range all {
		if (f.At-2)/s.Size == p.seg && f.Gen == p.known {
			p.slot = (f.At-2)%s.Size + 1
		}
	}
	// All are in the order of their sectors: so they stay, generation by generation.
	slices.SortStableFunc(all, func(a, b log.Found) int {
		switch {
		case a.Gen < b.Gen:
			return -1
		case a.Gen > b.Gen:
			return 1
		}
		return 0
	})
	return p, all
}

// readAll tells what the device reads; nil, if it isn't there.
func readAll(d *device.Device) (l []api.Sector) {
	for at := range d.Len() {
		s, e := d.Read(at)
		if e != api.OK {
			return nil
		}
		l = append(l, s)
	}
	return l
}

// scatter lays anything at all on both devices.
func scatter(t *testing.T, r *rand.Rand, c *set) {
	t.Helper()
	most := uint64(1 + r.Intn(6))
	for i := range c.d {
		for at := range c.d[i].Len() {
			switch r.Intn(5) {
			case 0, 1, 2:
				c.put(t, i, at, r.Uint64()%most, strconv.Itoa(r.Intn(1000)))
			case 3:
				c.lay(t, i, at, api.Sector{byte(r.Intn(256)), 24: byte(r.Intn(256))})
			}
		}
	}
}

func TestOpenByChance(t *testing.T) {
	r := rand.New(rand.NewSource(15))
	for range 400 {
		s := segment.Shape{Segs: 3 + r.Intn(4), Size: 1 + r.Intn(4)}
		c := madeOf(s.Sectors(), s.Sectors()+r.Intn(3), []func(int, api.Sector) bool{sector.Good(ours), every}[r.Intn(2)])
		scatter(t, r, c)
		if k := r.Intn(6); k < 2 {
			c.d[k].Out(true)
		}
		reads := [2][]api.Sector{readAll(c.d[0]), readAll(c.d[1])}
		p, want := plainOpen(s, reads)
		l, found := opened(t, c, s)
		finds(t, found, want...)
		same(t, l, p.state())
		c.waits(t, 0, 0)
		chosen(t, c, reads, want)
		_, again := opened(t, c, s)
		finds(t, again, want...)
		goOn(t, r, c, l, p)
	}
}

// chosen asks whether each device that is there has what was found, and nothing else was written.
func chosen(t *testing.T, c *set, reads [2][]api.Sector, found []log.Found) {
	t.Helper()
	for i, l := range reads {
		if l == nil {
			continue
		}
		for _, f := range found {
			l[f.At] = seal(t, f.At, f.Gen, string(f.Body))
		}
		if !slices.Equal(readAll(c.d[i]), l) {
			t.Fatalf("device %d hasn't what was found", i)
		}
	}
}

// goOn uses a log, beside the plain one.
func goOn(t *testing.T, r *rand.Rand, c *set, l *log.Log, p *plain) {
	t.Helper()
	stands := map[int]string{}
	for k := range 40 {
		if r.Intn(3) == 0 {
			seg := r.Intn(p.shape.Segs+2) - 1
			free(t, l, seg, p.free(seg))
		} else {
			body := strconv.Itoa(k)
			at, gen, ok := p.append()
			if got, e := l.Append([]byte(body)); got != at || (e == api.OK) != ok || !ok && e != api.ErrFull {
				t.Fatalf("Append = %d, %v, not %d, %v", got, e, at, ok)
			}
			if ok {
				stands[at] = body
				if s, e := c.m.Read(at); c.good != nil && (e != api.OK || s != seal(t, at, gen, body)) {
					t.Fatalf("at %d: %v, %v", at, s, e)
				}
			}
		}
		same(t, l, p.state())
	}
	for at, body := range stands {
		if !p.used[(at-2)/p.shape.Size] {
			noRead(t, l, at, api.ErrRange)
		} else if b, e := l.Read(at); e == api.OK && string(b) != body {
			t.Fatalf("Read(%d) = %q, not %q", at, b, body)
		}
	}
}

// entry is a body that was appended, at its place in the order of all.
type entry struct {
	log.Found
	flushed bool
	lost    bool // with power, ahead of any flush
}

// session is a log whose one device keeps what it was told to, and the other one does what it likes; every body is another one.
type session struct {
	t     *testing.T
	r     *rand.Rand
	c     *set
	shape segment.Shape
	l     *log.Log
	keeps int // the device that does
	all   []entry
	many  int             // bodies there were till now
	gone  map[string]bool // bodies whose segment was freed, and used again
}

func newSession(t *testing.T, r *rand.Rand) *session {
	s := segment.Shape{Segs: 3 + r.Intn(3), Size: 1 + r.Intn(4)}
	c := made(s)
	return &session{t: t, r: r, c: c, shape: s, l: fresh(t, c, s), keeps: r.Intn(2), gone: map[string]bool{}}
}

// comes tells where the next body goes; false: the log is full.
func (x *session) comes() (seg, slot int, gen uint64, ok bool) {
	seg, slot = x.l.Head()
	if seg >= 0 && slot < x.shape.Size {
		return seg, slot, x.l.Gen(seg), true
	}
	most, least := uint64(0), -1
	for seg := x.shape.Segs - 1; seg >= 0; seg-- {
		most = max(most, x.l.Gen(seg))
		if x.l.Gen(seg) == 0 {
			least = seg
		}
	}
	return least, 0, most + 1, least >= 0
}

// append appends another body. One at which power fails is told as appended, too: it may be found.
func (x *session) append() {
	seg, slot, gen, ok := x.comes()
	x.many++
	body := []byte("body " + strconv.Itoa(x.many))
	on := x.c.p.On()
	at, e := x.l.Append(body)
	switch {
	case !ok && e != api.ErrFull, ok && on && e != api.OK && x.c.p.On(), ok && !on && e != api.ErrDown:
		x.t.Fatalf("Append = %v; there is room: %v; power: %v", e, ok, on)
	case !ok || !on:
		return
	}
	want := 2 + seg*x.shape.Size + slot
	if e == api.OK && at != want {
		x.t.Fatalf("Append = %d, not %d", at, want)
	}
	for _, y := range x.all {
		if slot == 0 && (y.At-2)/x.shape.Size == seg {
			x.gone[string(y.Body)] = true
		}
	}
	x.all = append(x.all, entry{Found: log.Found{At: want, Gen: gen, Body: body}})
}

func (x *session) flush() {
	if x.l.Flush() == api.OK {
		for i, y := range x.all {
			x.all[i].flushed = !y.lost
		}
	}
}

// whim lets the other device lie, rot, or drop out.
func (x *session) whim() {
	d := x.c.d[1-x.keeps]
	switch x.r.Intn(5) {
	case 0:
		d.Lie(x.r.Intn(2) == 0)
	case 1:
		d.Rot(x.r.Intn(d.Len()), x.r.Intn(api.SectorSize), byte(1+x.r.Intn(255)))
	default:
		d.Out(x.r.Intn(2) == 0)
	}
}

// crash lets power fail somewhere, and opens what is there then.
func (x *session) crash() {
	for _, d := range x.c.d {
		d.Tear(x.r.Intn(6), x.r.Intn(api.SectorSize+1))
	}
	x.c.p.Fail(x.r.Intn(6))
	for range 8 {
		x.append()
		if x.r.Intn(3) == 0 {
			x.flush()
		}
	}
	if x.c.p.On() {
		x.flush()
		x.c.p.Fail(0)
		x.l.Flush()
	}
	x.c.p.Restart()
	x.open()
}

func (x *session) open() {
	l, found := opened(x.t, x.c, x.shape)
	there := map[string]bool{}
	last := -1
	for _, f := range found {
		i := slices.IndexFunc(x.all, func(y entry) bool {
			return string(y.Body) == string(f.Body)
		})
		if i < 0 || x.all[i].At != f.At || x.all[i].Gen != f.Gen {
			x.t.Fatalf("found what wasn't appended: %v", f)
		}
		if i <= last {
			x.t.Fatalf("the order isn't that in which it was appended: %v", found)
		}
		last = i
		there[string(f.Body)] = true
	}
	for _, y := range x.all {
		if y.flushed && !x.gone[string(y.Body)] && !there[string(y.Body)] {
			x.t.Fatalf("not found: %v", y)
		}
	}
	for i, y := range x.all {
		if y.lost && there[string(y.Body)] {
			x.t.Fatalf("lost, and found again: %v", y)
		}
		// What is found was flushed by Open. What had been written over may come back, of the device that missed that; what was lost with power doesn't.
		x.all[i].flushed = there[string(y.Body)]
		x.all[i].lost = !there[string(y.Body)] && !x.gone[string(y.Body)]
	}
	x.l = l
}

func TestWhatWasFlushedIsFoundByChance(t *testing.T) {
	r := rand.New(rand.NewSource(51))
	for range 300 {
		x := newSession(t, r)
		for range 60 {
			switch r.Intn(10) {
			case 0, 1, 2, 3:
				x.append()
			case 4, 5:
				x.flush()
			case 6, 7:
				x.l.Free(r.Intn(x.shape.Segs))
			case 8:
				x.whim()
			case 9:
				x.crash()
			}
		}
		x.open()
	}
}
