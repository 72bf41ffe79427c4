package gather_test

import (
	"encoding/binary"
	"math"
	"slices"
	"strconv"
	"testing"

	"ashlar/api"
	"ashlar/bench"
	"ashlar/crc"
	"ashlar/gather"
	"ashlar/hull"
	"ashlar/roster"
	"ashlar/super"
	"ashlar/wall"
)

// The document's numbers, written out, so that a limit that is asked wrongly is told.
const (
	size     = 64
	top      = 2305843009213693952
	beyond   = 4611686018427387904
	greatest = 1<<64 - 1
)

// id is the number of the array that most superblocks of the tests are of, other that
// of another one.
const (
	id    = 0x0102030405060708
	other = 0x0102030405060709
)

// unlike is an event none of whose bytes is 0, so that a sector of it, or of the one
// behind it, that is cut upon one of 0s is no superblock, wherever it is cut.
const unlike = 0x1112131415161718

// small has the fewest members, wide the most of all.
var (
	small = geo(3, 2, 40)
	wide  = geo(16, 64, 256)
)

func geo(members, stripes, ring int) api.Geo {
	return api.Geo{Members: members, Stripes: stripes, Ring: ring}
}

// dice answers numbers from 0 to below a bound, the same ones for the same seed.
func dice(seed int) func(bound int) int {
	n := uint32(seed)*2654435761 + 12345
	return func(bound int) int {
		n = n*1664525 + 1013904223
		return int(n>>8) % bound
	}
}

// some is a block that is another one for each seed.
func some(seed int) api.Block {
	var b api.Block
	roll := dice(seed)
	for i := range b {
		b[i] = byte(roll(256))
	}
	return b
}

// members is a roster whose members are as the letters say: i in sync, l lost, h healing.
func members(g api.Geo, letters string, cursor int, gone bool) api.Roster {
	r := api.Roster{Geo: g, Cursor: cursor, Gone: gone}
	for m, letter := range letters {
		switch letter {
		case 'l':
			r.States[m] = api.Lost
		case 'h':
			r.States[m] = api.Healing
		}
	}
	return r
}

// whole is a roster of members that are all in sync, with a log.
func whole(g api.Geo) api.Roster { return api.Roster{Geo: g} }

// losing is a roster of which more members are lost.
func losing(r api.Roster, lost ...int) api.Roster {
	for _, m := range lost {
		if r.States[m] == api.Healing {
			r.Cursor = 0
		}
		r.States[m] = api.Lost
	}
	return r
}

// of is the superblock of a member of the array.
func of(self int, r api.Roster) api.Super { return api.Super{Id: id, Self: self, Roster: r} }

// upTo are the numbers from one to another, that one too.
func upTo(from, to int) []int {
	var l []int
	for n := from; n <= to; n++ {
		l = append(l, n)
	}
	return l
}

// chosen are the numbers below a bound whose bits are set.
func chosen(bits, bound int) []int {
	var l []int
	for n := range bound {
		if bits>>n&1 == 1 {
			l = append(l, n)
		}
	}
	return l
}

// far are numbers of no device of any bench, and of none of the small one's members.
func far() []int {
	return []int{math.MinInt, math.MinInt + 1, math.MinInt32, -1 << 32, -65536, -256, -4, -3, -2, -1,
		4, 5, 16, 17, 18, 64, 255, 256, 257, 65536, 1 << 31, 1 << 32, 1<<32 + 1, math.MaxInt - 2, math.MaxInt - 1, math.MaxInt}
}

// devices are the sizes of an array's devices, none with a sector more than it needs.
func devices(g api.Geo) []int {
	var l []int
	for range g.Members {
		l = append(l, 2+g.Stripes)
	}
	return append(l, 10+g.Ring)
}

func newBench(t *testing.T, sizes ...int) *bench.Bench {
	t.Helper()
	b, e := bench.New(sizes)
	wantOK(t, "bench.New", e)
	return b
}

// room is a bench of new devices for an array.
func room(t *testing.T, g api.Geo) *bench.Bench {
	t.Helper()
	return newBench(t, devices(g)...)
}

// lay writes a sector, and makes it sure.
func lay(t *testing.T, b *bench.Bench, d, n int, x api.Block) {
	t.Helper()
	wantOK(t, "bench.Write", b.Write(d, n, x))
	wantOK(t, "bench.Flush", b.Flush(d))
}

// sector is that of a superblock.
func sector(t *testing.T, event uint64, s api.Super) api.Block {
	t.Helper()
	x, e := super.Put(event, s)
	wantOK(t, "super.Put", e)
	return x
}

// numbered is the sector of a superblock whose event is any number, also none that an
// event may be; all else is as in the sector of one.
func numbered(t *testing.T, event uint64, s api.Super) api.Block {
	t.Helper()
	x := sector(t, 1, s)
	binary.LittleEndian.PutUint64(x[:], event)
	binary.LittleEndian.PutUint32(x[52:], crc.Of(x[:52]))
	binary.LittleEndian.PutUint64(x[56:], event)
	return x
}

// stands is a bench for an array upon whose members superblocks of an event stand in
// the first sectors.
func stands(t *testing.T, event uint64, r api.Roster) *bench.Bench {
	t.Helper()
	b := room(t, r.Geo)
	for m := range r.Geo.Members {
		lay(t, b, m, 0, sector(t, event, of(m, r)))
	}
	return b
}

func fail(t *testing.T, b *bench.Bench, dead ...int) {
	t.Helper()
	for _, d := range dead {
		wantOK(t, "bench.Fail", b.Fail(d))
	}
}

// darken cuts the power of a bench, without anything written.
func darken(t *testing.T, b *bench.Bench) {
	t.Helper()
	wantOK(t, "bench.Arm", b.Arm(1))
	want(t, "bench.Flush", b.Flush(b.Devices()-1), api.ErrPower)
}

func want(t *testing.T, what string, got, want api.Errno) {
	t.Helper()
	if got != want {
		t.Fatalf("%s = %d, want %d", what, got, want)
	}
}

func wantOK(t *testing.T, what string, e api.Errno) {
	t.Helper()
	want(t, what, e, api.OK)
}

func wantSuper(t *testing.T, what string, b *bench.Bench, d int, event uint64, s api.Super) {
	t.Helper()
	gotEvent, got, e := gather.Super(b, d)
	if gotEvent != event || got != s || e != api.OK {
		t.Fatalf("%s: Super(%d) = %d, %v, %d, want %d, %v", what, d, gotEvent, got, e, event, s)
	}
}

// wantNoSuper says that an error is answered, and nothing beside it.
func wantNoSuper(t *testing.T, what string, b *bench.Bench, d int, e api.Errno) {
	t.Helper()
	event, s, got := gather.Super(b, d)
	if event != 0 || s != (api.Super{}) || got != e {
		t.Fatalf("%s: Super(%d) = %d, %v, %d, want the error %d", what, d, event, s, got, e)
	}
}

func wantFound(t *testing.T, what string, b *bench.Bench, f api.Found) {
	t.Helper()
	if got, e := gather.Look(b); got != f || e != api.OK {
		t.Fatalf("%s: Look = %v, %d, want %v", what, got, e, f)
	}
}

// wantRoster says that of the array that event and that roster are found.
func wantRoster(t *testing.T, what string, b *bench.Bench, event uint64, r api.Roster) {
	t.Helper()
	wantFound(t, what, b, api.Found{Event: event, Id: id, Roster: r})
}

// wantNotFound says that an error is answered, and nothing beside it.
func wantNotFound(t *testing.T, what string, b *bench.Bench, e api.Errno) {
	t.Helper()
	if f, got := gather.Look(b); f != (api.Found{}) || got != e {
		t.Fatalf("%s: Look = %v, %d, want the error %d", what, f, got, e)
	}
}

// The document's words, once more: what a device's superblock is, and what is found.

func superOf(b *bench.Bench, d int) (event uint64, s api.Super, is bool) {
	last := b.Devices() - 1
	if d < 0 || d >= last || b.Dead(d) || b.Sectors(d) < 2 {
		return 0, s, false
	}
	for n := range 2 {
		x, _ := b.Read(d, n)
		if ev, told, e := super.Get(x); e == api.OK && ev > event {
			event, s = ev, told
		}
	}
	g := s.Roster.Geo
	is = event != 0 && event <= top && g.Members == last && b.Sectors(last) >= 2+8+g.Ring
	for m := range last {
		is = is && b.Sectors(m) >= 2+g.Stripes
	}
	if !is {
		return 0, api.Super{}, false
	}
	return event, s, true
}

func foundOn(b *bench.Bench) (f api.Found, is bool) {
	for d := range b.Devices() - 1 {
		if event, s, has := superOf(b, d); has && event > f.Event {
			f, is = api.Found{Event: event, Id: s.Id, Roster: s.Roster}, true
		}
	}
	for d := range b.Devices() - 1 {
		_, s, has := superOf(b, d)
		if is && (!has || s.Id != f.Id || s.Roster.Geo != f.Roster.Geo || s.Self != d) {
			f.Roster = losing(f.Roster, d)
		}
	}
	return f, is
}

// wantWords says that all devices of a bench are told as the document's words have it,
// that what is found may be, and fits.
func wantWords(t *testing.T, what string, b *bench.Bench) {
	t.Helper()
	for d := -1; d <= b.Devices(); d++ {
		if event, s, is := superOf(b, d); is {
			wantSuper(t, what, b, d, event, s)
		} else {
			wantNoSuper(t, what, b, d, api.ErrNone)
		}
	}
	f, is := foundOn(b)
	if !is {
		wantNotFound(t, what, b, api.ErrNone)
		return
	}
	wantFound(t, what, b, f)
	wantMayBe(t, what, b)
}

// wantMayBe says that what is found may be an array upon that bench.
func wantMayBe(t *testing.T, what string, b *bench.Bench) {
	t.Helper()
	f, e := gather.Look(b)
	wantOK(t, what, e)
	if _, e := hull.New(b, f.Id, f.Event, f.Roster); e != api.OK {
		t.Fatalf("%s: hull.New(%v) = %d", what, f, e)
	}
	last := b.Devices() - 1
	if f.Event == 0 || f.Event > top || !roster.May(f.Roster) || b.Sectors(last) < 10+f.Roster.Geo.Ring {
		t.Fatalf("%s: Look = %v, which may not be, or does not fit", what, f)
	}
}

// bare is all of a bench that a call might turn.
type bare struct {
	read, sure  []api.Block
	dead        []bool
	steps       int
	dark        bool
	sizes, errs []int
}

func look(b *bench.Bench) bare {
	a := bare{steps: b.Steps(), dark: b.Dark()}
	for d := range b.Devices() {
		a.dead = append(a.dead, b.Dead(d))
		a.sizes = append(a.sizes, b.Sectors(d))
		for n := range b.Sectors(d) {
			x, e := b.Read(d, n)
			y, f := b.Sure(d, n)
			a.read, a.sure, a.errs = append(a.read, x), append(a.sure, y), append(a.errs, int(e), int(f))
		}
	}
	return a
}

func (a bare) like(b bare) bool {
	return slices.Equal(a.read, b.read) && slices.Equal(a.sure, b.sure) && slices.Equal(a.dead, b.dead) &&
		a.steps == b.steps && a.dark == b.dark && slices.Equal(a.sizes, b.sizes) && slices.Equal(a.errs, b.errs)
}

// The chapter's examples.

func TestExamples(t *testing.T) {
	b := room(t, small)
	wantNotFound(t, "new ones", b, api.ErrNone)
	wantNoSuper(t, "new ones", b, 3, api.ErrNone)
	h, e := hull.New(b, id, 0, whole(small))
	wantOK(t, "hull.New", e)
	wantOK(t, "hull.Save", h.Save())
	f, e := gather.Look(b)
	wantOK(t, "Look", e)
	if f.Event != 1 || roster.State(f.Roster) != api.Optimal {
		t.Fatalf("Look = %v", f)
	}
	fail(t, b, 0)
	f, e = gather.Look(b)
	wantOK(t, "Look", e)
	if roster.State(f.Roster) != api.Degraded {
		t.Fatalf("Look = %v", f)
	}
}

// What is not there, and what is dark.

func TestNothingThere(t *testing.T) {
	for range 2 {
		for _, none := range []*bench.Bench{nil, {}} {
			for _, d := range append(far(), 0, 1, 2, 3) {
				wantNoSuper(t, "no bench", none, d, api.ErrNil)
			}
			wantNotFound(t, "no bench", none, api.ErrNil)
		}
	}
}

// In the dark nothing is told, whatever stands there and whichever device is meant;
// behind a Crash all of it is.
func TestDark(t *testing.T) {
	for _, how := range []string{"new", "whole", "dead", "spoilt"} {
		b := room(t, small)
		switch how {
		case "whole":
			b = stands(t, 5, whole(small))
		case "dead":
			b = stands(t, 5, whole(small))
			fail(t, b, 0)
		case "spoilt":
			b = stands(t, 5, whole(small))
			wantOK(t, "bench.Rot", b.Rot(1, 0, 20, 1))
		}
		darken(t, b)
		for range 2 {
			for _, d := range append(far(), 0, 1, 2, 3) {
				wantNoSuper(t, how, b, d, api.ErrPower)
			}
			wantNotFound(t, how, b, api.ErrPower)
		}
		fail(t, b, 0, 1, 3)
		wantNoSuper(t, how, b, 0, api.ErrPower)
		wantNotFound(t, how, b, api.ErrPower)
		wantOK(t, "bench.Crash", b.Crash(nil))
		wantWords(t, how, b)
	}
}

// A bench that is armed is not dark yet, and stays armed for as many steps.
func TestArmed(t *testing.T) {
	b := stands(t, 5, whole(small))
	wantOK(t, "bench.Arm", b.Arm(2))
	for range 3 {
		wantSuper(t, "armed", b, 1, 5, of(1, whole(small)))
		wantRoster(t, "armed", b, 5, whole(small))
	}
	wantOK(t, "bench.Flush", b.Flush(0))
	wantRoster(t, "armed", b, 5, whole(small))
	want(t, "bench.Flush", b.Flush(0), api.ErrPower)
	wantNotFound(t, "cut", b, api.ErrPower)
}

// Nothing on a bench is turned by a question, in whatever state it is: what is not sure
// is not made sure, a dead device stays one.
func TestNothingTurns(t *testing.T) {
	for _, how := range []string{"new", "whole", "not sure", "dead", "dark", "short"} {
		b := stands(t, 5, whole(small))
		switch how {
		case "new":
			b = room(t, small)
		case "not sure":
			wantOK(t, "bench.Write", b.Write(1, 1, sector(t, 6, of(1, whole(small)))))
			wantOK(t, "bench.Write", b.Write(3, 9, some(1)))
		case "dead":
			fail(t, b, 1, 3)
		case "dark":
			wantOK(t, "bench.Write", b.Write(1, 1, some(2)))
			darken(t, b)
		case "short":
			b = newBench(t, 1, 2, 1, 3)
		}
		was := look(b)
		for range 2 {
			for _, d := range append(far(), 0, 1, 2, 3) {
				gather.Super(b, d)
			}
			gather.Look(b)
		}
		if is := look(b); !is.like(was) {
			t.Fatalf("%s: the bench is %v, was %v", how, is, was)
		}
	}
}

// P22.1, Super.

// The last device has no superblock, whatever stands there; nor has one that is none.
func TestSuperOfNoDevice(t *testing.T) {
	b := stands(t, 5, whole(small))
	for n := range 2 {
		lay(t, b, 3, n, sector(t, 9, of(n, whole(small))))
	}
	for _, d := range append(far(), 3) {
		wantNoSuper(t, "no member", b, d, api.ErrNone)
	}
	for d := range 3 {
		wantSuper(t, "a member", b, d, 5, of(d, whole(small)))
	}
	b = stands(t, 5, whole(wide))
	lay(t, b, 16, 0, sector(t, 9, of(15, whole(wide))))
	for _, d := range []int{math.MinInt, -16, -1, 16, 17, 18, math.MaxInt} {
		wantNoSuper(t, "no member of many", b, d, api.ErrNone)
	}
	for d := range 16 {
		wantSuper(t, "a member of many", b, d, 5, of(d, whole(wide)))
	}
}

// Benches of fewer devices than any array has, with superblocks upon all of them.
func TestFewDevices(t *testing.T) {
	for many := 1; many <= 3; many++ {
		b := newBench(t, slices.Repeat([]int{100}, many)...)
		for range 2 {
			for d := -1; d <= many; d++ {
				wantNoSuper(t, "few", b, d, api.ErrNone)
			}
			wantNotFound(t, "few", b, api.ErrNone)
			for d := range many {
				lay(t, b, d, 0, sector(t, 1, of(d, whole(small))))
			}
		}
	}
}

func TestSuperOfNewOnes(t *testing.T) {
	for _, g := range []api.Geo{small, wide} {
		b := room(t, g)
		for d := range b.Devices() {
			wantNoSuper(t, "new", b, d, api.ErrNone)
		}
	}
}

// rosters are some that may be, of the small geometry.
func rosters() []api.Roster {
	return []api.Roster{
		whole(small),
		members(small, "iil", 0, false),
		members(small, "lil", 0, true),
		members(small, "lll", 0, false),
		members(small, "hii", 0, false),
		members(small, "ihi", 1, false),
		members(small, "lih", 1, true),
		members(small, "iii", 0, true),
	}
}

func TestSuperInEitherSector(t *testing.T) {
	for _, r := range rosters() {
		for d := range 3 {
			for n := range 2 {
				b := room(t, small)
				s := of(d, r)
				lay(t, b, d, n, sector(t, 7, s))
				wantSuper(t, "one alone", b, d, 7, s)
				for another := range 4 {
					if another != d {
						wantNoSuper(t, "beside it", b, another, api.ErrNone)
					}
				}
			}
		}
	}
}

// Of two the one of the greater event is the device's, whichever sector it is in; of
// two of one event it is the first.
func TestSuperOfTwo(t *testing.T) {
	elder, newer := of(1, whole(small)), of(1, members(small, "iil", 0, true))
	for _, events := range [][2]uint64{{1, 2}, {2, 3}, {1, 9}, {255, 256}, {1<<32 - 1, 1 << 32}, {top - 1, top}, {1, top}} {
		for n := range 2 {
			b := room(t, small)
			lay(t, b, 1, n, sector(t, events[0], elder))
			wantSuper(t, "the elder one", b, 1, events[0], elder)
			lay(t, b, 1, 1-n, sector(t, events[1], newer))
			wantSuper(t, "the newer one", b, 1, events[1], newer)
		}
	}
	for _, event := range []uint64{1, 7, top} {
		b := room(t, small)
		lay(t, b, 1, 0, sector(t, event, elder))
		lay(t, b, 1, 1, sector(t, event, newer))
		wantSuper(t, "the first one", b, 1, event, elder)
	}
}

// Where the newer one is spoilt, by whichever byte, the elder one is the device's; where
// both are, it has none.
func TestSuperOfSpoiltOnes(t *testing.T) {
	r := whole(small)
	for at := range size {
		for n := range 2 {
			b := room(t, small)
			lay(t, b, 1, n, sector(t, 4, of(1, r)))
			lay(t, b, 1, 1-n, sector(t, 5, of(1, r)))
			wantOK(t, "bench.Rot", b.Rot(1, 1-n, at, 0x10))
			wantSuper(t, "the newer one is spoilt", b, 1, 4, of(1, r))
			wantOK(t, "bench.Rot", b.Rot(1, n, size-1-at, 0x01))
			wantNoSuper(t, "both are", b, 1, api.ErrNone)
			wantOK(t, "bench.Rot", b.Rot(1, 1-n, at, 0x10))
			wantSuper(t, "the elder one is", b, 1, 5, of(1, r))
		}
	}
}

// What is read counts, not what is sure; behind a cut what was kept of it.
func TestSuperThatIsNotSure(t *testing.T) {
	b := room(t, small)
	lay(t, b, 2, 0, sector(t, 4, of(2, whole(small))))
	wantOK(t, "bench.Write", b.Write(2, 1, sector(t, 5, of(2, whole(small)))))
	wantSuper(t, "not sure", b, 2, 5, of(2, whole(small)))
	wantRoster(t, "not sure", b, 5, losing(whole(small), 0, 1))
	wantOK(t, "bench.Crash", b.Crash(nil))
	wantSuper(t, "lost", b, 2, 4, of(2, whole(small)))
	wantRoster(t, "lost", b, 4, losing(whole(small), 0, 1))
}

func TestSuperOfDeadOnes(t *testing.T) {
	b := stands(t, 5, whole(small))
	fail(t, b, 1)
	wantNoSuper(t, "dead", b, 1, api.ErrNone)
	wantSuper(t, "beside it", b, 0, 5, of(0, whole(small)))
	wantSuper(t, "beside it", b, 2, 5, of(2, whole(small)))
	wantOK(t, "bench.Insert", b.Insert(1))
	wantNoSuper(t, "a new one", b, 1, api.ErrNone)
	fail(t, b, 3)
	wantSuper(t, "the log is dead", b, 0, 5, of(0, whole(small)))
	wantRoster(t, "the log is dead", b, 5, losing(whole(small), 1))
}

// A device too short to have both sectors has no superblock, and beside it none fits.
func TestSuperOfShortOnes(t *testing.T) {
	r := whole(geo(3, 1, 40))
	for short := range 3 {
		sizes := devices(r.Geo)
		sizes[short] = 1
		b := newBench(t, sizes...)
		for d := range 3 {
			lay(t, b, d, 0, sector(t, 3, of(d, r)))
		}
		for d := range 3 {
			wantNoSuper(t, "one is short", b, d, api.ErrNone)
		}
		wantNotFound(t, "one is short", b, api.ErrNone)
	}
}

// Events up to 2^61 fit; a newest one beyond that leaves its device without any, also
// beside an elder one that fits; what is no event is no superblock's, so the other one
// is the newest.
func TestSuperOfEvents(t *testing.T) {
	s := of(0, whole(small))
	elder := of(0, members(small, "iil", 0, false))
	for _, c := range []struct {
		event   uint64
		is, fit bool
	}{
		{0, false, false}, {1, true, true}, {2, true, true}, {1 << 32, true, true}, {top - 1, true, true}, {top, true, true},
		{top + 1, true, false}, {top + 2, true, false}, {beyond - 1, true, false}, {beyond, true, false},
		{beyond + 1, false, false}, {1 << 63, false, false}, {greatest - 1, false, false}, {greatest, false, false},
	} {
		what := strconv.FormatUint(c.event, 10)
		for n := range 2 {
			b := room(t, small)
			lay(t, b, 0, n, numbered(t, c.event, s))
			if c.fit {
				wantSuper(t, what, b, 0, c.event, s)
				wantRoster(t, what, b, c.event, losing(whole(small), 1, 2))
			} else {
				wantNoSuper(t, what, b, 0, api.ErrNone)
				wantNotFound(t, what, b, api.ErrNone)
			}
			lay(t, b, 0, 1-n, sector(t, 1, elder))
			switch {
			case c.is && !c.fit:
				wantNoSuper(t, what+" beside 1", b, 0, api.ErrNone)
				wantNotFound(t, what+" beside 1", b, api.ErrNone)
			case !c.is:
				wantSuper(t, what+" beside 1", b, 0, 1, elder)
			}
			wantWords(t, what+" beside 1", b)
		}
	}
}

// The members are one fewer than the devices are, neither more nor fewer.
func TestSuperOfMembers(t *testing.T) {
	for many := 4; many <= 17; many++ {
		b := newBench(t, slices.Repeat([]int{60}, many)...)
		for n := 3; n <= 16; n++ {
			s := of(1, whole(geo(n, 2, 40)))
			lay(t, b, 1, 0, sector(t, 5, s))
			if n == many-1 {
				wantSuper(t, "just as many", b, 1, 5, s)
				wantWords(t, "just as many", b)
				continue
			}
			wantNoSuper(t, "more or fewer", b, 1, api.ErrNone)
			wantNotFound(t, "more or fewer", b, api.ErrNone)
		}
	}
}

// Each of the members has room for the stripes, and the log for its ring, to the sector.
func TestSuperOfRoom(t *testing.T) {
	for _, g := range []api.Geo{small, geo(3, 1, 40), geo(5, 7, 41), wide, geo(16, 64, 40), geo(3, 64, 256)} {
		for d := range g.Members + 1 {
			for by := -2; by <= 2; by++ {
				sizes := devices(g)
				sizes[d] += by
				b := newBench(t, sizes...)
				for _, m := range []int{0, g.Members - 1, d % g.Members} {
					lay(t, b, m, 0, sector(t, 5, of(m, whole(g))))
					if by >= 0 {
						wantSuper(t, "room enough", b, m, 5, of(m, whole(g)))
					} else {
						wantNoSuper(t, "too little room", b, m, api.ErrNone)
						wantNotFound(t, "too little room", b, api.ErrNone)
					}
				}
			}
		}
	}
}

// Devices of the fewest and of the most sectors, with whatever geometry stands there.
func TestSuperOfGeometries(t *testing.T) {
	for _, sizes := range [][4]int{{1, 1, 1, 1}, {2, 2, 2, 512}, {3, 3, 3, 50}, {512, 512, 512, 512}, {512, 512, 512, 1}, {6, 6, 6, 50}} {
		b := newBench(t, sizes[:]...)
		for _, stripes := range []int{1, 2, 3, 4, 5, 63, 64} {
			for _, ring := range []int{40, 41, 255, 256} {
				lay(t, b, 0, 0, sector(t, 2, of(0, whole(geo(3, stripes, ring)))))
				wantWords(t, "geometries", b)
			}
		}
	}
}

// A dead device has its sectors still: what others tell fits as it did.
func TestDeadOnesHaveTheirRoom(t *testing.T) {
	for d := range 4 {
		for by := -1; by <= 0; by++ {
			sizes := devices(small)
			sizes[d] += by
			b := newBench(t, sizes...)
			fail(t, b, d)
			m := (d + 1) % 3
			lay(t, b, m, 1, sector(t, 5, of(m, whole(small))))
			if by < 0 {
				wantNoSuper(t, "too little room", b, m, api.ErrNone)
			} else {
				wantSuper(t, "room enough", b, m, 5, of(m, whole(small)))
			}
		}
	}
}

// A newest one that does not fit leaves its device without any, also beside an elder
// one that fits.
func TestSuperThatDoesNotFitBesideOne(t *testing.T) {
	for _, g := range []api.Geo{geo(4, 2, 40), geo(3, 3, 40), geo(3, 2, 41)} {
		for n := range 2 {
			b := room(t, small)
			lay(t, b, 0, n, sector(t, 8, of(0, whole(small))))
			lay(t, b, 0, 1-n, sector(t, 7, of(0, whole(g))))
			wantSuper(t, "the elder one does not fit", b, 0, 8, of(0, whole(small)))
			lay(t, b, 0, 1-n, sector(t, 9, of(0, whole(g))))
			wantNoSuper(t, "the newest one does not fit", b, 0, api.ErrNone)
			wantNotFound(t, "the newest one does not fit", b, api.ErrNone)
		}
	}
}

// What its Self says is not asked of a device's own superblock, nor its Id.
func TestSuperOfAnother(t *testing.T) {
	for d := range 3 {
		for self := range 3 {
			for _, number := range []uint64{1, id, other, greatest} {
				b := room(t, small)
				s := api.Super{Id: number, Self: self, Roster: whole(small)}
				lay(t, b, d, 0, sector(t, 5, s))
				wantSuper(t, "another's", b, d, 5, s)
			}
		}
	}
}

// P22.1, Look.

func TestLookAtNewOnes(t *testing.T) {
	for _, g := range []api.Geo{small, geo(7, 5, 100), wide} {
		wantNotFound(t, "new", room(t, g), api.ErrNone)
	}
}

// Each choice of members that have a superblock, of one event: all others are lost.
func TestLookAtSome(t *testing.T) {
	for _, r := range rosters() {
		for has := range 8 {
			b := room(t, small)
			for _, d := range chosen(has, 3) {
				lay(t, b, d, d%2, sector(t, 6, of(d, r)))
			}
			if has == 0 {
				wantNotFound(t, "none", b, api.ErrNone)
				continue
			}
			wantRoster(t, "some", b, 6, losing(r, chosen(7-has, 3)...))
			wantWords(t, "some", b)
		}
	}
}

// Of many members each one alone, each one not, and all.
func TestLookAtMany(t *testing.T) {
	b := stands(t, 6, whole(wide))
	wantRoster(t, "all", b, 6, whole(wide))
	for d := range 16 {
		lay(t, b, d, 0, api.Block{})
		wantRoster(t, "all but one", b, 6, losing(whole(wide), d))
		lay(t, b, d, 0, sector(t, 6, of(d, whole(wide))))
		one := room(t, wide)
		lay(t, one, d, 0, sector(t, 6, of(d, whole(wide))))
		wantRoster(t, "one alone", one, 6, losing(whole(wide), slices.Concat(upTo(0, d-1), upTo(d+1, 15))...))
	}
}

// What is found is of the greatest event, wherever it stands; what the others tell of
// their members is elder, but they are of that array, so they are not lost by it.
func TestLookAtUnlikeEvents(t *testing.T) {
	rows := []api.Roster{whole(small), members(small, "iil", 0, false), members(small, "ihi", 1, false)}
	for _, events := range [][3]uint64{{1, 2, 3}, {1, 3, 2}, {2, 1, 3}, {2, 3, 1}, {3, 1, 2}, {3, 2, 1}, {9, 1, 1}, {1, 9, 1}, {1, 1, 9}, {1, top, 2}, {top - 1, 5, top}} {
		b := room(t, small)
		newest := 0
		for d, event := range events {
			lay(t, b, d, d%2, sector(t, event, of(d, rows[d])))
			if event > events[newest] {
				newest = d
			}
		}
		wantRoster(t, "unlike events", b, events[newest], rows[newest])
		wantWords(t, "unlike events", b)
	}
}

// Of several of the greatest event it is that of the least number: the Id and the
// roster are all of that one.
func TestLookAtOneEvent(t *testing.T) {
	rows := []api.Roster{whole(small), members(small, "iii", 0, true), members(small, "hii", 1, false)}
	for has := 1; has < 8; has++ {
		for elder := range 8 {
			b := room(t, small)
			for d := range 3 {
				if elder>>d&1 == 1 {
					lay(t, b, d, 0, sector(t, 5, of(d, members(small, "iii", 0, true))))
				}
			}
			var lost []int
			l := chosen(has, 3)
			for _, d := range l {
				lay(t, b, d, 1, sector(t, 6, of(d, rows[d])))
			}
			for d := range 3 {
				if (has|elder)>>d&1 == 0 {
					lost = append(lost, d)
				}
			}
			wantRoster(t, "one event", b, 6, losing(rows[l[0]], lost...))
		}
	}
	b := room(t, small)
	for d, number := range []uint64{other, id, id} {
		lay(t, b, d, 0, sector(t, 6, api.Super{Id: number, Self: d, Roster: whole(small)}))
	}
	wantFound(t, "one event of two arrays", b, api.Found{Event: 6, Id: other, Roster: losing(whole(small), 1, 2)})
}

// A superblock that does not fit is as if it were not there: one of a lesser event that
// fits is found.
func TestLookAtOneThatDoesNotFit(t *testing.T) {
	for d := range 3 {
		for _, misfit := range []api.Block{
			sector(t, 9, of(d, whole(geo(4, 2, 40)))),
			sector(t, 9, of(d, whole(geo(3, 3, 40)))),
			sector(t, 9, of(d, whole(geo(3, 2, 41)))),
			sector(t, top+1, of(d, whole(small))),
			numbered(t, greatest, of(d, whole(small))),
		} {
			b := stands(t, 3, whole(small))
			lay(t, b, d, 0, misfit)
			wantRoster(t, "beside one that does not fit", b, 3, losing(whole(small), d))
			b = room(t, small)
			lay(t, b, d, 1, misfit)
			wantNotFound(t, "one that does not fit alone", b, api.ErrNone)
		}
	}
}

// foreign are superblocks of an event that do not make a member one of the array, and
// what is no superblock at all.
func foreign(t *testing.T, event uint64, d int) map[string]api.Block {
	t.Helper()
	r := whole(small)
	return map[string]api.Block{
		"another Id":      sector(t, event, api.Super{Id: other, Self: d, Roster: r}),
		"another Id's":    sector(t, event, api.Super{Id: greatest, Self: d, Roster: r}),
		"fewer stripes":   sector(t, event, of(d, whole(geo(3, 1, 40)))),
		"a longer ring":   sector(t, event, of(d, whole(geo(3, 2, 42)))),
		"the next Self":   sector(t, event, of((d+1)%3, r)),
		"the Self ahead":  sector(t, event, of((d+2)%3, r)),
		"none":            {},
		"no superblock":   some(d),
		"a spoilt one":    spoilt(sector(t, event, of(d, r)), 20),
		"one of no event": numbered(t, 0, of(d, r)),
	}
}

func spoilt(x api.Block, at int) api.Block {
	x[at] ^= 0x40
	return x
}

// Members whose superblock is another's, or not there, are lost: each one of them, two,
// and all but the one whose superblock is found; whichever event it is of, as long as
// that is no greater one.
func TestLookAtForeignOnes(t *testing.T) {
	sizes := devices(small)
	sizes[3] += 2
	for what := range foreign(t, 5, 0) {
		for _, event := range []uint64{1, 4, 5} {
			for bits := 1; bits < 7; bits++ {
				b := newBench(t, sizes...)
				for d := range 3 {
					lay(t, b, d, 0, sector(t, 5, of(d, whole(small))))
				}
				lost := chosen(bits, 3)
				for _, d := range lost {
					lay(t, b, d, 0, foreign(t, event, d)[what])
				}
				if event == 5 && lost[0] == 0 {
					wantWords(t, what, b) // It may be the first of that event.
					continue
				}
				wantRoster(t, what, b, 5, losing(whole(small), lost...))
			}
		}
	}
}

// The one that is found may itself be lost by what it says: its Self is another's.
func TestLookAtOneThatIsNotItself(t *testing.T) {
	b := stands(t, 5, whole(small))
	lay(t, b, 1, 0, sector(t, 6, of(2, members(small, "iii", 0, true))))
	wantRoster(t, "another Self", b, 6, losing(members(small, "iii", 0, true), 1))
	b = stands(t, 5, whole(small))
	lay(t, b, 2, 1, sector(t, 6, api.Super{Id: other, Self: 2, Roster: whole(small)}))
	wantFound(t, "another array's", b, api.Found{Event: 6, Id: other, Roster: losing(whole(small), 0, 1)})
	b = stands(t, 5, whole(small))
	lay(t, b, 0, 1, sector(t, 6, of(2, whole(geo(3, 1, 40)))))
	wantRoster(t, "another geometry and Self", b, 6, losing(whole(geo(3, 1, 40)), 0, 1, 2))
}

// The roster that is found is told as it is, and beside it what the devices lack: who
// heals is as far as it says, but one that is lost has no Cursor.
func TestLookAtRosters(t *testing.T) {
	for _, r := range rosters() {
		b := stands(t, 5, r)
		wantRoster(t, "as it says", b, 5, r)
		for bits := 1; bits < 7; bits++ {
			b := stands(t, 5, r)
			fail(t, b, chosen(bits, 3)...)
			wantRoster(t, "some are dead", b, 5, losing(r, chosen(bits, 3)...))
		}
	}
	r := members(wide, "iiiiihiiiiiiiiii", 63, false)
	wantRoster(t, "one heals", stands(t, 5, r), 5, r)
	b := stands(t, 5, r)
	fail(t, b, 5)
	wantRoster(t, "the one that heals is dead", b, 5, members(wide, "iiiiiliiiiiiiiii", 0, false))
	b = stands(t, 5, r)
	fail(t, b, 4)
	wantRoster(t, "another one is dead", b, 5, members(wide, "iiiilhiiiiiiiiii", 63, false))
}

// The dead tell nothing: neither that they are there, nor of a greater event.
func TestLookAtDeadOnes(t *testing.T) {
	b := stands(t, 5, whole(small))
	lay(t, b, 1, 1, sector(t, 9, of(1, members(small, "lil", 0, true))))
	fail(t, b, 1)
	wantRoster(t, "dead", b, 5, losing(whole(small), 1))
	fail(t, b, 0, 2)
	wantNotFound(t, "all dead", b, api.ErrNone)
}

// The last device is not asked: neither what it tells, nor whether it is there.
func TestLookAsksNotTheLog(t *testing.T) {
	b := room(t, small)
	for n := range 2 {
		lay(t, b, 3, n, sector(t, 9, of(n, whole(small))))
	}
	wantNotFound(t, "upon the log alone", b, api.ErrNone)
	for d := range 3 {
		lay(t, b, d, 1, sector(t, 5, of(d, whole(small))))
	}
	wantRoster(t, "upon the log, too", b, 5, whole(small))
	fail(t, b, 3)
	wantRoster(t, "the log is dead", b, 5, whole(small))
}

// P22.2.

// kinds are what may stand in a device's sector; each of them is told by its number.
const kinds = 13

func kind(t *testing.T, n, d int, roll func(int) int) api.Block {
	t.Helper()
	rows := rosters()
	r := rows[roll(len(rows))]
	event := uint64(1 + roll(5))
	whose := []uint64{id, id, id, other}[roll(4)]
	s := api.Super{Id: whose, Self: d % 3, Roster: r}
	switch n {
	case 0:
		return api.Block{}
	case 1:
		return some(roll(1000))
	case 2:
		return spoilt(sector(t, event, s), roll(size))
	case 3:
		s.Self = roll(3)
	case 4:
		s.Roster = whole([]api.Geo{geo(3, 1, 40), geo(3, 3, 40), geo(3, 2, 41), geo(4, 2, 40), geo(3, 1, 44)}[roll(5)])
	case 5:
		event = top - 1 + uint64(roll(3))
	case 6:
		return numbered(t, []uint64{0, beyond, beyond + 1, 1 << 63, greatest}[roll(5)], s)
	case 7:
		newer := of(d%3, rows[roll(len(rows))])
		return wall.Torn(sector(t, event, s), sector(t, event+1, newer), roll(size+1))
	case 8:
		return cut(sector(t, event, s), roll(size+1))
	}
	return sector(t, event, s)
}

// cut is the beginning of a block, behind which it is 0.
func cut(x api.Block, at int) api.Block {
	for n := at; n < size; n++ {
		x[n] = 0
	}
	return x
}

// Whatever bytes stand there, upon whichever devices, dead ones too: all is told as the
// words have it, and what is found may be, and fits.
func TestWhateverStandsThere(t *testing.T) {
	for seed := range 20_000 {
		roll := dice(seed)
		sizes := devices(small)
		if roll(4) == 0 {
			sizes[roll(4)] += roll(5) - 2
		}
		b := newBench(t, sizes...)
		for d := range 4 {
			for n := range 2 {
				wantOK(t, "bench.Write", b.Write(d, n, kind(t, roll(kinds), d, roll)))
			}
			if roll(10) == 0 {
				fail(t, b, d)
			}
		}
		steps := b.Steps()
		wantWords(t, "seed "+strconv.Itoa(seed), b)
		if b.Steps() != steps {
			t.Fatalf("seed %d: Steps = %d, want %d", seed, b.Steps(), steps)
		}
	}
}

// Each choice of what three devices tell, of each roster.
func TestEachChoice(t *testing.T) {
	for _, r := range rosters() {
		for row := range 9 * 9 * 9 {
			b := room(t, small)
			for d, rest := 0, row; d < 3; d, rest = d+1, rest/9 {
				s, event := of(d, r), uint64(5)
				switch rest % 9 {
				case 0:
					continue
				case 1:
					fail(t, b, d)
					continue
				case 2:
					event, s.Roster = 4, members(small, "iii", 0, true)
				case 3:
					event, s.Roster = 6, members(small, "iil", 0, false)
				case 4:
					s.Id = other
				case 5:
					s.Self = (d + 1) % 3
				case 6:
					s.Roster = whole(geo(3, 1, 40))
				case 7:
					event, s.Roster = 9, whole(geo(3, 2, 41))
				}
				wantOK(t, "bench.Write", b.Write(d, row%2, sector(t, event, s)))
			}
			wantWords(t, "row "+strconv.Itoa(row), b)
		}
	}
}

// hulled is a hull upon a bench.
func hulled(t *testing.T, b *bench.Bench, event uint64, r api.Roster) *hull.Hull {
	t.Helper()
	h, e := hull.New(b, id, event, r)
	wantOK(t, "hull.New", e)
	return h
}

// wantSaved says that what is found is the hull's event and roster, but for members that
// failed since.
func wantSaved(t *testing.T, what string, b *bench.Bench, h *hull.Hull, failed ...int) {
	t.Helper()
	wantRoster(t, what, b, h.Event(), losing(h.Roster(), failed...))
}

// alive are those of a roster's members that are not lost, nor among some others.
func alive(r api.Roster, failed []int) []int {
	var l []int
	for m := range r.Geo.Members {
		if r.States[m] != api.Lost && !slices.Contains(failed, m) {
			l = append(l, m)
		}
	}
	return l
}

// Behind a Save each choice of members fails: what is found is what was saved, and they
// are lost; where none is left that has it, nothing is.
func TestBehindSave(t *testing.T) {
	for _, r := range rosters() {
		for bits := range 8 {
			b := room(t, small)
			h := hulled(t, b, 40, r)
			wantOK(t, "hull.Save", h.Save())
			failed := chosen(bits, 3)
			fail(t, b, failed...)
			if len(alive(r, failed)) == 0 {
				wantNotFound(t, "none is left", b, api.ErrNone)
				continue
			}
			// A lost one has no superblock, but it is lost already.
			wantSaved(t, "some failed", b, h, failed...)
			if h.Event() != 41 || h.Roster() != r {
				t.Fatalf("the hull is of %d, %v", h.Event(), h.Roster())
			}
			for _, d := range failed {
				wantOK(t, "bench.Insert", b.Insert(d))
			}
			wantSaved(t, "new ones stand there", b, h, failed...)
		}
	}
}

// Members that are dead ahead of a Save are found dead by it, and what is found says so;
// then others fail.
func TestDeadAheadOfSave(t *testing.T) {
	for _, r := range rosters() {
		for bits := range 8 {
			for more := range 8 {
				b := room(t, small)
				h := hulled(t, b, 0, r)
				wantOK(t, "hull.Save", h.Save())
				fail(t, b, chosen(bits, 3)...)
				wantOK(t, "hull.Save", h.Save())
				if h.Roster() != losing(r, chosen(bits, 3)...) {
					t.Fatalf("the hull is of %v", h.Roster())
				}
				fail(t, b, chosen(more, 3)...)
				if len(alive(h.Roster(), chosen(more, 3))) == 0 {
					wantWords(t, "none is left", b)
					continue
				}
				wantSaved(t, "dead ahead of it", b, h, chosen(more, 3)...)
			}
		}
	}
}

// Several Saves one behind the other, with what a hull goes through between them.
func TestSeveralSaves(t *testing.T) {
	b := room(t, small)
	h := hulled(t, b, 0, whole(small))
	saved := func(what string, event uint64, letters string, cursor int, gone bool) {
		t.Helper()
		wantOK(t, "hull.Save", h.Save())
		wantRoster(t, what, b, event, members(small, letters, cursor, gone))
	}
	saved("new", 1, "iii", 0, false)
	saved("once more", 2, "iii", 0, false)
	fail(t, b, 1)
	wantRoster(t, "a member failed", b, 2, members(small, "ili", 0, false))
	wantOK(t, "hull.Find", h.Find(1))
	wantRoster(t, "it is found dead", b, 3, members(small, "ili", 0, false))
	wantOK(t, "bench.Insert", b.Insert(1))
	wantRoster(t, "a spare", b, 3, members(small, "ili", 0, false))
	wantOK(t, "hull.Begin", h.Begin(1))
	wantRoster(t, "it heals, which is not saved yet", b, 3, members(small, "ili", 0, false))
	saved("it heals", 4, "ihi", 0, false)
	wantOK(t, "hull.Fill", h.Fill(some(1)))
	wantRoster(t, "one stripe, which is not saved yet", b, 4, members(small, "ihi", 0, false))
	saved("one stripe", 5, "ihi", 1, false)
	wantOK(t, "hull.Fill", h.Fill(some(2)))
	saved("it is whole", 6, "iii", 0, false)
	wantOK(t, "hull.Gone", h.Gone(true))
	saved("the log is gone", 7, "iii", 0, true)
	wantOK(t, "hull.Gone", h.Gone(false))
	saved("it is there", 8, "iii", 0, false)
	fail(t, b, 0, 2)
	wantRoster(t, "two failed", b, 8, members(small, "lil", 0, false))
	// Behind each of the two that it finds dead the Save begins anew, with one event more.
	saved("two are lost", 11, "lil", 0, false)
}

// A hull of what is found goes on from there.
func TestSaveOfWhatIsFound(t *testing.T) {
	b := stands(t, 5, whole(small))
	for round := range 6 {
		f, e := gather.Look(b)
		wantOK(t, "Look", e)
		h, e := hull.New(b, f.Id, f.Event, f.Roster)
		wantOK(t, "hull.New", e)
		wantOK(t, "hull.Save", h.Save())
		wantRoster(t, "saved", b, uint64(6+round), whole(small))
	}
}

// A member that is out of date by many events is of the array still; one that was lost
// stays so, whatever it tells.
func TestSaveLeavesTheLost(t *testing.T) {
	b := stands(t, 5, whole(small))
	h := hulled(t, b, 5, losing(whole(small), 1))
	for event := uint64(6); event < 9; event++ {
		wantOK(t, "hull.Save", h.Save())
		wantSuper(t, "the lost one", b, 1, 5, of(1, whole(small)))
		wantRoster(t, "saved", b, event, losing(whole(small), 1))
	}
	fail(t, b, 0, 2)
	wantRoster(t, "the lost one alone", b, 5, losing(whole(small), 0, 2))
}

// At the greatest events: the last one that fits, and the first one that does not.
func TestSaveOfGreatEvents(t *testing.T) {
	b := room(t, small)
	h := hulled(t, b, top-1, whole(small))
	wantOK(t, "hull.Save", h.Save())
	wantRoster(t, "the last one", b, top, whole(small))
	wantOK(t, "hull.Save", h.Save())
	wantNotFound(t, "one beyond", b, api.ErrNone)
}

// The most members there are, with all of the Save's work.
func TestSaveOfMany(t *testing.T) {
	b := room(t, wide)
	h := hulled(t, b, 0, whole(wide))
	wantOK(t, "hull.Save", h.Save())
	wantSaved(t, "all", b, h)
	for d := range 16 {
		wantRoster(t, "some failed", b, 1, losing(whole(wide), upTo(0, d-1)...))
		fail(t, b, d)
	}
	wantNotFound(t, "all failed", b, api.ErrNone)
}

// cutSave is a bench upon which a hull saved one roster, of the event unlike, and was
// saving another one when the power was cut; or done, if it was not.
func cutSave(t *testing.T, step int, picks []int, before, after api.Roster, dead ...int) (b *bench.Bench, done bool) {
	t.Helper()
	b = room(t, small)
	h := hulled(t, b, unlike-1, before)
	wantOK(t, "hull.Save", h.Save())
	h = hulled(t, b, unlike, after)
	fail(t, b, dead...)
	wantOK(t, "bench.Arm", b.Arm(step))
	e := h.Save()
	if e == api.OK {
		return b, true
	}
	want(t, "hull.Save", e, api.ErrPower)
	wantNotFound(t, "in the dark", b, api.ErrPower)
	wantOK(t, "bench.Crash", b.Crash(picks))
	return b, false
}

// tears are how much of what was not flushed is kept: nothing, a part, all.
func tears() []int { return []int{0, 1, 7, 8, 9, 31, 52, 56, 57, 63, 64} }

// A Save that was cut, at each step, with whatever was kept: what is found is what was
// saved ahead of it, or what it was to save, as a whole; no member is lost by it.
func TestSaveThatWasCut(t *testing.T) {
	after := []api.Roster{whole(small), members(small, "iii", 0, true), members(small, "ihi", 1, false), members(small, "iil", 0, false)}
	for _, r := range after {
		steps := 2 * len(alive(r, nil))
		for step := 1; step <= steps; step++ {
			for _, kept := range tears() {
				b, done := cutSave(t, step, []int{kept}, whole(small), r)
				if done {
					t.Fatalf("step %d: it is not cut", step)
				}
				if step == 1 || step == 2 && kept < size {
					wantRoster(t, "ahead of it", b, unlike, whole(small))
				} else {
					wantRoster(t, "behind it", b, unlike+1, r)
				}
				wantWords(t, "cut", b)
			}
		}
		b, done := cutSave(t, steps+1, nil, whole(small), r)
		if !done {
			t.Fatalf("%d steps: it is cut", steps)
		}
		wantRoster(t, "done", b, unlike+1, r)
	}
}

// The same with a member that failed since it was saved: it is lost either way.
func TestSaveOfDeadOnesThatWasCut(t *testing.T) {
	for dead := range 3 {
		for step := 1; ; step++ {
			var done bool
			for _, kept := range tears() {
				var b *bench.Bench
				b, done = cutSave(t, step, []int{kept}, whole(small), whole(small), dead)
				f, e := gather.Look(b)
				wantOK(t, "Look", e)
				if f.Roster != losing(whole(small), dead) || f.Event < unlike || f.Event > unlike+2 {
					t.Fatalf("step %d: Look = %v", step, f)
				}
				wantWords(t, "cut", b)
			}
			if done {
				break
			}
		}
	}
}

// The first Save of all, cut: as long as nothing of it stands nothing is found; then
// those whose superblock does not stand yet are lost, which is as the words say.
func TestFirstSaveThatWasCut(t *testing.T) {
	for step := 1; step <= 6; step++ {
		for _, kept := range tears() {
			b := room(t, small)
			h := hulled(t, b, unlike-1, whole(small))
			wantOK(t, "bench.Arm", b.Arm(step))
			want(t, "hull.Save", h.Save(), api.ErrPower)
			wantOK(t, "bench.Crash", b.Crash([]int{kept}))
			stand := (step - 1) / 2
			if step%2 == 0 && kept == size {
				stand++
			}
			if stand == 0 {
				wantNotFound(t, "nothing stands", b, api.ErrNone)
				continue
			}
			wantRoster(t, "some stand", b, unlike, losing(whole(small), upTo(stand, 2)...))
		}
	}
}

// Long rows of what a hull goes through, cuts and spares among it: behind each Save that
// is OK what is found has its event and roster.
func TestLongRows(t *testing.T) {
	for seed := range 400 {
		roll := dice(seed)
		b := room(t, small)
		h := hulled(t, b, uint64(roll(3)), whole(small))
		wantOK(t, "hull.Save", h.Save())
		for range 40 {
			b, h = goOn(t, roll, b, h)
			e := h.Save()
			if len(alive(h.Roster(), nil)) == 0 {
				break
			}
			wantOK(t, "hull.Save", e)
			wantSaved(t, "seed "+strconv.Itoa(seed), b, h)
			wantWords(t, "seed "+strconv.Itoa(seed), b)
		}
	}
}

// goOn lets something happen to an array; behind a cut it is gathered anew.
func goOn(t *testing.T, roll func(int) int, b *bench.Bench, h *hull.Hull) (*bench.Bench, *hull.Hull) {
	t.Helper()
	d := roll(3)
	switch roll(8) {
	case 0:
		if roll(3) == 0 {
			fail(t, b, d)
		}
	case 1:
		if h.Roster().States[d] == api.Lost && b.Dead(d) {
			wantOK(t, "bench.Insert", b.Insert(d))
		}
	case 2, 3:
		h.Begin(d)
	case 4:
		h.Fill(some(roll(100)))
	case 5:
		h.Gone(roll(2) == 0)
	case 6:
		wantOK(t, "bench.Arm", b.Arm(1+roll(6)))
		if h.Save() == api.ErrPower {
			wantOK(t, "bench.Crash", b.Crash([]int{roll(size + 1), roll(size + 1)}))
			f, e := gather.Look(b)
			wantOK(t, "Look", e)
			h = hulled(t, b, f.Event, f.Roster)
		}
		wantOK(t, "bench.Arm", b.Arm(0))
	}
	return b, h
}
