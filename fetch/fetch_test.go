package fetch_test

import (
	"math"
	"slices"
	"strconv"
	"testing"

	"ashlar/api"
	"ashlar/bench"
	"ashlar/fetch"
	"ashlar/hull"
)

// The document's numbers, written out, so that a part that stands elsewhere is told.
const (
	size   = 64
	supers = 2
)

// id is the number of the array whose members the tests' hulls are.
const id = 0x0102030405060708

// small has the fewest members, and a stripe for the parity of each of them; wide has
// the most.
var (
	small = geo(3, 3)
	wide  = geo(16, 16)
)

func geo(members, stripes int) api.Geo {
	return api.Geo{Members: members, Stripes: stripes, Ring: 40}
}

func at(stripe, member int) api.Place { return api.Place{Stripe: stripe, Member: member} }

// some is a block that is another one for each seed.
func some(seed int) api.Block {
	var b api.Block
	roll := dice(seed)
	for i := range b {
		b[i] = byte(roll(256))
	}
	return b
}

// full is a block of one byte.
func full(c byte) (b api.Block) {
	for i := range b {
		b[i] = c
	}
	return b
}

// against are blocks laid against each other.
func against(l ...api.Block) (x api.Block) {
	for _, b := range l {
		for i := range x {
			x[i] ^= b[i]
		}
	}
	return x
}

// dice answers numbers from 0 to below a bound, the same ones for the same seed.
func dice(seed int) func(bound int) int {
	n := uint32(seed)*2654435761 + 12345
	return func(bound int) int {
		n = n*1664525 + 1013904223
		return int(n>>8) % bound
	}
}

// members is a roster whose members are as the letters say: i in sync, l lost, h
// healing; those behind the letters are in sync.
func members(g api.Geo, letters string, cursor int, gone bool) api.Roster {
	r := api.Roster{Geo: g, Cursor: cursor, Gone: gone}
	for m, letter := range letters {
		switch letter {
		case 'l':
			r.States[m] = api.Lost
		case 'h':
			r.States[m] = api.Healing
		}
	}
	return r
}

func small3(letters string, cursor int) api.Roster { return members(small, letters, cursor, false) }

// one is a roster of which one member is something, and the others are in sync.
func one(g api.Geo, member int, is uint8, cursor int) api.Roster {
	r := api.Roster{Geo: g, Cursor: cursor}
	r.States[member] = is
	return r
}

// table is what stands on the members: a row of blocks for each stripe.
type table [][]api.Block

// noise is a table in which no block can be told by the others.
func noise(g api.Geo) table {
	l := make(table, g.Stripes)
	for s := range l {
		for m := range g.Members {
			l[s] = append(l[s], some(1000*s+m))
		}
	}
	return l
}

// sound is a table whose stripes have the parities of their data.
func sound(g api.Geo) table {
	l := noise(g)
	for s, row := range l {
		parity := (g.Members - 1) - s%g.Members
		row[parity] = api.Block{}
		row[parity] = against(row...)
	}
	return l
}

// told is a row in which the block of one member is what the others tell.
func told(row []api.Block, member int) []api.Block {
	l := slices.Clone(row)
	l[member] = against(slices.Delete(slices.Clone(row), member, member+1)...)
	return l
}

// laid is a bench upon which a table stands for sure, and no superblock.
func laid(t *testing.T, g api.Geo, l table) *bench.Bench {
	t.Helper()
	var sizes []int
	for range g.Members {
		sizes = append(sizes, supers+g.Stripes)
	}
	b, e := bench.New(append(sizes, 10+g.Ring))
	wantOK(t, "bench.New", e)
	for s, row := range l {
		for m, x := range row {
			write(t, b, at(s, m), x)
		}
	}
	return b
}

// write writes a cell, and makes it sure.
func write(t *testing.T, b *bench.Bench, p api.Place, x api.Block) {
	t.Helper()
	wantOK(t, "bench.Write", b.Write(p.Member, supers+p.Stripe, x))
	wantOK(t, "bench.Flush", b.Flush(p.Member))
}

// made is a hull, of event 0.
func made(t *testing.T, b *bench.Bench, r api.Roster) *hull.Hull {
	t.Helper()
	h, e := hull.New(b, id, 0, r)
	wantOK(t, "hull.New", e)
	return h
}

func fail(t *testing.T, b *bench.Bench, dead ...int) {
	t.Helper()
	for _, d := range dead {
		wantOK(t, "bench.Fail", b.Fail(d))
	}
}

// darken cuts the power of a bench, without anything written.
func darken(t *testing.T, b *bench.Bench) {
	t.Helper()
	wantOK(t, "bench.Arm", b.Arm(1))
	want(t, "bench.Flush", b.Flush(b.Devices()-1), api.ErrPower)
}

func want(t *testing.T, what string, got, want api.Errno) {
	t.Helper()
	if got != want {
		t.Fatalf("%s = %d, want %d", what, got, want)
	}
}

func wantOK(t *testing.T, what string, e api.Errno) {
	t.Helper()
	want(t, what, e, api.OK)
}

func wantCell(t *testing.T, h *hull.Hull, p api.Place, x api.Block) {
	t.Helper()
	got, e := fetch.Cell(h, p)
	if got != x || e != api.OK {
		t.Fatalf("Cell(%v) = %x, %d, want %x", p, got, e, x)
	}
}

func wantNoCell(t *testing.T, what string, h *hull.Hull, p api.Place, e api.Errno) {
	t.Helper()
	got, is := fetch.Cell(h, p)
	if got != (api.Block{}) || is != e {
		t.Fatalf("%s: Cell(%v) = %x, %d, want the error %d alone", what, p, got, is, e)
	}
}

func wantStripe(t *testing.T, h *hull.Hull, stripe int, row []api.Block) {
	t.Helper()
	got, e := fetch.Stripe(h, stripe)
	if !slices.Equal(got, row) || e != api.OK {
		t.Fatalf("Stripe(%d) = %x, %d, want %x", stripe, got, e, row)
	}
}

func wantNoStripe(t *testing.T, what string, h *hull.Hull, stripe int, e api.Errno) {
	t.Helper()
	got, is := fetch.Stripe(h, stripe)
	if len(got) > 0 || is != e {
		t.Fatalf("%s: Stripe(%d) = %x, %d, want the error %d alone", what, stripe, got, is, e)
	}
}

// wantSound says what Sound answers: beside an error, no.
func wantSound(t *testing.T, what string, h *hull.Hull, stripe int, yes bool, e api.Errno) {
	t.Helper()
	got, is := fetch.Sound(h, stripe)
	if got != yes || is != e {
		t.Fatalf("%s: Sound(%d) = %t, %d, want %t, %d", what, stripe, got, is, yes, e)
	}
}

// wantTold says what a hull tells of itself.
func wantTold(t *testing.T, what string, h *hull.Hull, event uint64, r api.Roster) {
	t.Helper()
	if h.Event() != event || h.Roster() != r || h.Id() != id {
		t.Fatalf("%s: Event, Roster, Id = %d %v %x, want %d %v", what, h.Event(), h.Roster(), h.Id(), event, r)
	}
}

// wantSame says that two benches have the same sectors, also the same that are sure,
// are dead and dark alike, and did as many steps.
func wantSame(t *testing.T, what string, a, b *bench.Bench) {
	t.Helper()
	if a.Steps() != b.Steps() || a.Dark() != b.Dark() {
		t.Fatalf("%s: Steps, Dark = %d %t, want %d %t", what, a.Steps(), a.Dark(), b.Steps(), b.Dark())
	}
	for d := range b.Devices() {
		for n := range b.Sectors(d) {
			x, e := a.Read(d, n)
			y, f := b.Read(d, n)
			if x != y || e != f {
				t.Fatalf("%s: sector %d of device %d is read as %x, %d, want %x, %d", what, n, d, x, e, y, f)
			}
			x, e = a.Sure(d, n)
			y, f = b.Sure(d, n)
			if x != y || e != f {
				t.Fatalf("%s: sector %d of device %d is for sure %x, %d, want %x, %d", what, n, d, x, e, y, f)
			}
		}
	}
}

// The chapter's examples.

func TestExamples(t *testing.T) {
	b := laid(t, small, table{{full(1), full(2), full(3)}})
	h := made(t, b, small3("iii", 0))
	wantCell(t, h, at(0, 1), full(2))
	wantSound(t, "Sound", h, 0, true, api.OK)
	fail(t, b, 1)
	wantCell(t, h, at(0, 1), full(2))
	wantSound(t, "Sound", h, 0, false, api.ErrState)
	fail(t, b, 0)
	wantNoCell(t, "two failed", h, at(0, 1), api.ErrFailed)
	wantNoCell(t, "no stripe", h, at(9, 0), api.ErrArg)
}

// A hull that is none, and places that are none.

// far are numbers of no member and of no stripe of the small geometry.
func far() []int {
	return []int{math.MinInt, math.MinInt + 1, math.MinInt32, -1 << 32, -65536, -256, -3, -2, -1,
		3, 4, 15, 16, 63, 64, 65, 255, 256, 257, 65536, 1 << 31, 1 << 32, 1<<32 + 1, math.MaxInt - 2, math.MaxInt - 1, math.MaxInt}
}

func TestNone(t *testing.T) {
	for _, h := range []*hull.Hull{nil, {}} {
		for _, n := range append(far(), 0, 1, 2) {
			for _, p := range []api.Place{at(n, 0), at(0, n), at(n, n), at(n, 3), at(3, n)} {
				wantNoCell(t, "no hull", h, p, api.ErrNil)
			}
			wantNoStripe(t, "no hull", h, n, api.ErrNil)
			wantSound(t, "no hull", h, n, false, api.ErrNil)
		}
	}
}

// Where there is no such place, nothing is found dead, in whatever state the array is.
func TestNoPlace(t *testing.T) {
	for _, r := range []api.Roster{small3("iii", 0), small3("lii", 0), small3("lli", 0), small3("hii", 2), members(small, "iii", 0, true)} {
		for _, dark := range []bool{false, true} {
			b := laid(t, small, sound(small))
			h := made(t, b, r)
			fail(t, b, 0, 2)
			if dark {
				darken(t, b)
			}
			was := b.Copy()
			for _, n := range far() {
				for within := range 3 {
					wantNoCell(t, "no stripe", h, at(n, within), api.ErrArg)
					wantNoCell(t, "no member", h, at(within, n), api.ErrArg)
				}
				wantNoCell(t, "neither", h, at(n, n), api.ErrArg)
				wantNoStripe(t, "no stripe", h, n, api.ErrArg)
				wantSound(t, "no stripe", h, n, false, api.ErrArg)
			}
			wantSame(t, "no place", b, was)
			wantTold(t, "no place", h, 0, r)
		}
	}
}

// The last stripe is one, and one more is none, also of the longest members.
func TestEdgesOfStripes(t *testing.T) {
	for _, g := range []api.Geo{geo(3, 1), geo(3, 2), geo(4, 5), geo(16, 1), geo(16, 64), geo(3, 64)} {
		l := sound(g)
		for _, r := range []api.Roster{{Geo: g}, one(g, 1, api.Lost, 0)} {
			h := made(t, laid(t, g, l), r)
			for _, s := range []int{0, g.Stripes - 1} {
				wantCell(t, h, at(s, 1), l[s][1])
				wantStripe(t, h, s, l[s])
			}
			for _, s := range []int{-1, g.Stripes, g.Stripes + 1} {
				wantNoCell(t, "no stripe", h, at(s, 1), api.ErrArg)
				wantNoStripe(t, "no stripe", h, s, api.ErrArg)
				wantSound(t, "no stripe", h, s, false, api.ErrArg)
			}
			for _, m := range []int{-1, g.Members, g.Members + 1} {
				wantNoCell(t, "no member", h, at(0, m), api.ErrArg)
			}
		}
	}
}

// P19.1: Cell.

// Of a member that is there the block is answered that stands there, whatever the
// others tell.
func TestCellThatStands(t *testing.T) {
	for _, g := range []api.Geo{small, geo(4, 5), wide} {
		for _, l := range []table{noise(g), sound(g)} {
			for _, r := range []api.Roster{{Geo: g}, {Geo: g, Gone: true}} {
				b := laid(t, g, l)
				h := made(t, b, r)
				was := b.Copy()
				for s, row := range l {
					for m, x := range row {
						wantCell(t, h, at(s, m), x)
					}
				}
				wantSame(t, "Cell", b, was)
				wantTold(t, "Cell", h, 0, r)
			}
		}
	}
}

// Of a member that is lost the others tell: each of its cells, data and parity, of
// the fewest members and of sixteen; what stands upon its device does not count, nor
// whether that is dead.
func TestCellOfLost(t *testing.T) {
	for _, g := range []api.Geo{small, geo(4, 5), wide} {
		for _, l := range []table{noise(g), sound(g)} {
			for lost := range g.Members {
				b := laid(t, g, l)
				r := one(g, lost, api.Lost, 0)
				h := made(t, b, r)
				for _, dead := range []bool{false, true} {
					if dead {
						fail(t, b, lost)
					}
					was := b.Copy()
					for s, row := range l {
						wantCell(t, h, at(s, lost), told(row, lost)[lost])
						next := (lost + 1) % g.Members
						wantCell(t, h, at(s, next), row[next])
					}
					wantSame(t, "Cell", b, was)
					wantTold(t, "Cell", h, 0, r)
				}
			}
		}
	}
}

// A member that heals has the cells below its Cursor; at it, and beyond, the others tell.
func TestCellOfHealing(t *testing.T) {
	for _, g := range []api.Geo{small, geo(3, 5), wide} {
		l := noise(g)
		for heals := range g.Members {
			for cursor := range g.Stripes {
				b := laid(t, g, l)
				r := one(g, heals, api.Healing, cursor)
				h := made(t, b, r)
				was := b.Copy()
				for s, row := range l {
					if s >= cursor {
						row = told(row, heals)
					}
					wantCell(t, h, at(s, heals), row[heals])
				}
				wantSame(t, "Cell", b, was)
				wantTold(t, "Cell", h, 0, r)
			}
		}
	}
}

// A member that this call finds dead is lost behind it, and that is saved.
func TestCellFindsDead(t *testing.T) {
	for _, g := range []api.Geo{small, wide} {
		l := noise(g)
		for dead := range g.Members {
			for s, row := range l {
				b := laid(t, g, l)
				h := made(t, b, api.Roster{Geo: g})
				fail(t, b, dead)
				// Another one that is asked for does not find it.
				next := (dead + 1) % g.Members
				wantCell(t, h, at(s, next), row[next])
				wantTold(t, "Cell of another one", h, 0, api.Roster{Geo: g})
				for range 2 {
					wantCell(t, h, at(s, dead), told(row, dead)[dead])
					wantTold(t, "Cell", h, 1, one(g, dead, api.Lost, 0))
				}
			}
		}
	}
	// One that heals is lost anew, so that what it had counts no more.
	l := noise(small)
	b := laid(t, small, l)
	h := made(t, b, small3("ihi", 2))
	fail(t, b, 1)
	wantCell(t, h, at(0, 1), against(l[0][0], l[0][2]))
	wantTold(t, "one that heals", h, 1, small3("ili", 0))
}

// Where another one is dead, too, no block can be told.
func TestCellFindsASecondOne(t *testing.T) {
	for _, c := range []struct {
		name   string
		r      api.Roster
		dead   []int
		p      api.Place
		event  uint64
		behind api.Roster
	}{
		{"the first of the others", small3("iil", 0), []int{0}, at(0, 2), 1, small3("lil", 0)},
		{"the last of the others", small3("lii", 0), []int{2}, at(0, 0), 1, small3("lil", 0)},
		{"both others", small3("ili", 0), []int{0, 2}, at(1, 1), 2, small3("lll", 0)},
		{"beside one that heals, at the Cursor", small3("ihi", 1), []int{2}, at(1, 1), 1, small3("ihl", 1)},
		{"beside one that heals, beyond the Cursor", small3("ihi", 1), []int{0}, at(2, 1), 1, small3("lhi", 1)},
		{"beside one that heals, not asked for", small3("ihi", 1), []int{0}, at(0, 0), 1, small3("lhi", 1)},
		{"two at once", small3("iii", 0), []int{0, 1}, at(0, 0), 2, small3("lli", 0)},
		{"two at once, the second one asked for", small3("iii", 0), []int{0, 1}, at(2, 1), 2, small3("lli", 0)},
		{"all", small3("iii", 0), []int{0, 1, 2}, at(2, 1), 3, small3("lll", 0)},
		{"beside a log that is gone", members(small, "iii", 0, true), []int{1}, at(0, 1), 1, members(small, "ili", 0, true)},
	} {
		b := laid(t, small, sound(small))
		h := made(t, b, c.r)
		fail(t, b, c.dead...)
		for range 2 {
			wantNoCell(t, c.name, h, c.p, api.ErrFailed)
			wantTold(t, c.name, h, c.event, c.behind)
			if h.State() != api.Failed {
				t.Fatalf("%s: State = %d", c.name, h.State())
			}
		}
	}
	// One that is dead, but not needed, is not found.
	l := sound(small)
	b := laid(t, small, l)
	h := made(t, b, small3("ihi", 1))
	fail(t, b, 0, 2)
	wantCell(t, h, at(0, 1), l[0][1])
	wantTold(t, "not needed", h, 0, small3("ihi", 1))
}

// Of two that are lost no call tells anything, also not what stands there.
func TestFailed(t *testing.T) {
	for _, r := range []api.Roster{small3("lli", 0), small3("lil", 0), small3("ill", 0), small3("hil", 2), small3("lll", 0), members(small, "lii", 0, true), members(small, "ihi", 2, true)} {
		for _, dark := range []bool{false, true} {
			b := laid(t, small, sound(small))
			h := made(t, b, r)
			if dark {
				fail(t, b, 0, 1)
				darken(t, b)
			}
			was := b.Copy()
			for s := range 3 {
				for m := range 3 {
					wantNoCell(t, "failed", h, at(s, m), api.ErrFailed)
				}
				wantNoStripe(t, "failed", h, s, api.ErrFailed)
				wantSound(t, "failed", h, s, false, api.ErrFailed)
			}
			wantSame(t, "failed", b, was)
			wantTold(t, "failed", h, 0, r)
		}
	}
}

// What was written last is read, be it sure or not.
func TestLoose(t *testing.T) {
	l := sound(small)
	b := laid(t, small, l)
	h := made(t, b, small3("lii", 0))
	wantOK(t, "bench.Write", b.Write(1, supers+2, full(7)))
	wantCell(t, h, at(2, 1), full(7))
	wantCell(t, h, at(2, 0), against(full(7), l[2][2]))
	wantStripe(t, h, 2, []api.Block{against(full(7), l[2][2]), full(7), l[2][2]})
	wantOK(t, "bench.Crash", b.Crash(nil))
	wantStripe(t, h, 2, l[2])
}

// P19.1: Stripe.

func TestStripe(t *testing.T) {
	for _, g := range []api.Geo{small, geo(4, 5), wide} {
		for _, l := range []table{noise(g), sound(g)} {
			b := laid(t, g, l)
			h := made(t, b, api.Roster{Geo: g})
			was := b.Copy()
			for s, row := range l {
				wantStripe(t, h, s, row)
			}
			wantSame(t, "Stripe", b, was)
			wantTold(t, "Stripe", h, 0, api.Roster{Geo: g})
		}
	}
	h := made(t, laid(t, small, sound(small)), members(small, "iii", 0, true))
	wantStripe(t, h, 1, sound(small)[1])
}

func TestStripeWithoutOne(t *testing.T) {
	for _, g := range []api.Geo{small, geo(4, 5), wide} {
		l := noise(g)
		for m := range g.Members {
			for s, row := range l {
				wantStripe(t, made(t, laid(t, g, l), one(g, m, api.Lost, 0)), s, told(row, m))
				b := laid(t, g, l)
				h := made(t, b, api.Roster{Geo: g})
				fail(t, b, m)
				for range 2 {
					wantStripe(t, h, s, told(row, m))
					wantTold(t, "found dead", h, 1, one(g, m, api.Lost, 0))
				}
			}
		}
	}
}

func TestStripeOfHealing(t *testing.T) {
	l := noise(small)
	for m := range 3 {
		for cursor := range 3 {
			b := laid(t, small, l)
			r := one(small, m, api.Healing, cursor)
			h := made(t, b, r)
			was := b.Copy()
			for s, row := range l {
				if s >= cursor {
					row = told(row, m)
				}
				wantStripe(t, h, s, row)
			}
			wantSame(t, "Stripe", b, was)
			wantTold(t, "Stripe", h, 0, r)
		}
	}
}

// The first error is answered alone, also where cells ahead of it were read.
func TestStripeRefused(t *testing.T) {
	for _, c := range []struct {
		name   string
		r      api.Roster
		dead   []int
		event  uint64
		behind api.Roster
	}{
		{"the first two", small3("iii", 0), []int{0, 1}, 2, small3("lli", 0)},
		{"the last two", small3("iii", 0), []int{1, 2}, 2, small3("ill", 0)},
		{"the first and the last", small3("iii", 0), []int{0, 2}, 2, small3("lil", 0)},
		{"all", small3("iii", 0), []int{0, 1, 2}, 3, small3("lll", 0)},
		{"the last one, beside a lost one", small3("ili", 0), []int{2}, 1, small3("ill", 0)},
		{"the first one, beside one that heals", small3("ihi", 1), []int{0}, 1, small3("lhi", 1)},
		{"the last one, beside a log that is gone", members(small, "iii", 0, true), []int{2}, 1, members(small, "iil", 0, true)},
	} {
		for s := range 3 {
			b := laid(t, small, sound(small))
			h := made(t, b, c.r)
			fail(t, b, c.dead...)
			for range 2 {
				wantNoStripe(t, c.name, h, s, api.ErrFailed)
				wantTold(t, c.name, h, c.event, c.behind)
			}
		}
	}
}

// A row is new memory: what its owner does with it nobody else can tell.
func TestRowsAreNew(t *testing.T) {
	for _, letters := range []string{"iii", "ili"} {
		l := sound(small)
		h := made(t, laid(t, small, l), small3(letters, 0))
		first, e := fetch.Stripe(h, 1)
		wantOK(t, "Stripe", e)
		second, e := fetch.Stripe(h, 1)
		wantOK(t, "Stripe", e)
		for m := range first {
			first[m][0]++
		}
		for range 5 {
			first = append(first, full(9))
		}
		if !slices.Equal(second, l[1]) {
			t.Fatalf("the second row is %x, want %x", second, l[1])
		}
		wantStripe(t, h, 1, l[1])
	}
}

// P19.2: Sound.

func TestSound(t *testing.T) {
	for _, g := range []api.Geo{small, geo(4, 5), wide} {
		for _, r := range []api.Roster{{Geo: g}, {Geo: g, Gone: true}} {
			for name, l := range map[string]table{"of 0": nil, "sound": sound(g), "unsound": noise(g)} {
				b := laid(t, g, l)
				h := made(t, b, r)
				was := b.Copy()
				for s := range g.Stripes {
					wantSound(t, name, h, s, name != "unsound", api.OK)
				}
				wantSame(t, "Sound", b, was)
				wantTold(t, "Sound", h, 0, r)
			}
		}
	}
}

// One bit that is another one, of whichever member, is told, and of no other stripe.
func TestSoundOfABit(t *testing.T) {
	for _, g := range []api.Geo{small, wide} {
		l := sound(g)
		b := laid(t, g, l)
		h := made(t, b, api.Roster{Geo: g})
		for s, row := range l {
			for m, x := range row {
				for bit := range 8 * size {
					if g == wide && bit%29 != m {
						continue
					}
					y := x
					y[bit/8] ^= 1 << (bit % 8)
					wantOK(t, "bench.Write", b.Write(m, supers+s, y))
					wantSound(t, "a bit", h, s, false, api.OK)
					wantSound(t, "another stripe", h, (s+1)%g.Stripes, true, api.OK)
				}
				write(t, b, at(s, m), x)
				wantSound(t, "as it was", h, s, true, api.OK)
			}
		}
	}
	// The same bit of two members is not told: their parity is 0.
	l := sound(small)
	for m := range 2 {
		l[0][m][63] ^= 0x80
	}
	wantSound(t, "two bits", made(t, laid(t, small, l), small3("iii", 0)), 0, true, api.OK)
}

// With a member lost it can't be told whether a stripe is sound.
func TestSoundWithoutOne(t *testing.T) {
	for _, g := range []api.Geo{small, wide} {
		for _, l := range []table{sound(g), noise(g)} {
			for m := range g.Members {
				b := laid(t, g, l)
				h := made(t, b, one(g, m, api.Lost, 0))
				was := b.Copy()
				for s := range g.Stripes {
					wantSound(t, "lost", h, s, false, api.ErrState)
				}
				wantSame(t, "lost", b, was)
				wantTold(t, "lost", h, 0, one(g, m, api.Lost, 0))
			}
		}
	}
}

func TestSoundOfHealing(t *testing.T) {
	for m := range 3 {
		for cursor := range 3 {
			for _, yes := range []bool{true, false} {
				l := sound(small)
				if !yes {
					l = noise(small)
				}
				b := laid(t, small, l)
				r := one(small, m, api.Healing, cursor)
				h := made(t, b, r)
				was := b.Copy()
				for s := range 3 {
					if s < cursor {
						wantSound(t, "below the Cursor", h, s, yes, api.OK)
					} else {
						wantSound(t, "from the Cursor on", h, s, false, api.ErrState)
					}
				}
				wantSame(t, "healing", b, was)
				wantTold(t, "healing", h, 0, r)
			}
		}
	}
}

// A member that this call finds dead is lost behind it; the first error is answered,
// and what is behind it is not read.
func TestSoundFindsDead(t *testing.T) {
	for _, c := range []struct {
		name   string
		r      api.Roster
		dead   []int
		e      api.Errno
		event  uint64
		behind api.Roster
	}{
		{"the first one", small3("iii", 0), []int{0}, api.ErrState, 1, small3("lii", 0)},
		{"the second one", small3("iii", 0), []int{1}, api.ErrState, 1, small3("ili", 0)},
		{"the last one", small3("iii", 0), []int{2}, api.ErrState, 1, small3("iil", 0)},
		{"two", small3("iii", 0), []int{1, 2}, api.ErrFailed, 2, small3("ill", 0)},
		{"all", small3("iii", 0), []int{0, 1, 2}, api.ErrFailed, 3, small3("lll", 0)},
		{"ahead of a lost one", small3("ili", 0), []int{0}, api.ErrFailed, 1, small3("lli", 0)},
		{"behind a lost one", small3("ili", 0), []int{2}, api.ErrState, 0, small3("ili", 0)},
		{"ahead of one that heals", small3("iih", 0), []int{1}, api.ErrFailed, 1, small3("ilh", 0)},
		{"behind one that heals", small3("hii", 0), []int{1}, api.ErrState, 0, small3("hii", 0)},
		{"behind one that heals, below its Cursor", small3("hii", 1), []int{1}, api.ErrFailed, 1, small3("hli", 1)},
		{"one that heals, below its Cursor", small3("hii", 1), []int{0}, api.ErrState, 1, small3("lii", 0)},
		{"one that heals, at its Cursor", small3("hii", 0), []int{0}, api.ErrState, 0, small3("hii", 0)},
		{"beside a log that is gone", members(small, "iii", 0, true), []int{2}, api.ErrFailed, 1, members(small, "iil", 0, true)},
		{"the log alone", small3("iii", 0), []int{3}, api.OK, 0, small3("iii", 0)},
	} {
		b := laid(t, small, sound(small))
		h := made(t, b, c.r)
		fail(t, b, c.dead...)
		for range 2 {
			wantSound(t, c.name, h, 0, c.e == api.OK, c.e)
			wantTold(t, c.name, h, c.event, c.behind)
		}
	}
}

// The power.

// In the dark nothing is read, and nothing found dead; what does not ask the bench is
// answered as ever.
func TestDark(t *testing.T) {
	for _, c := range []struct {
		r    api.Roster
		errs [4]api.Errno // of the cells of each member, and of Sound
	}{
		{small3("iii", 0), [4]api.Errno{api.ErrPower, api.ErrPower, api.ErrPower, api.ErrPower}},
		{small3("lii", 0), [4]api.Errno{api.ErrPower, api.ErrPower, api.ErrPower, api.ErrState}},
		{small3("ili", 0), [4]api.Errno{api.ErrPower, api.ErrPower, api.ErrPower, api.ErrPower}},
		{small3("hii", 0), [4]api.Errno{api.ErrPower, api.ErrPower, api.ErrPower, api.ErrState}},
		{small3("hii", 1), [4]api.Errno{api.ErrPower, api.ErrPower, api.ErrPower, api.ErrPower}},
		{small3("lil", 0), [4]api.Errno{api.ErrFailed, api.ErrFailed, api.ErrFailed, api.ErrFailed}},
	} {
		for n := range 8 {
			l := sound(small)
			b := laid(t, small, l)
			h := made(t, b, c.r)
			for m := range 3 {
				if n>>m&1 == 1 {
					fail(t, b, m)
				}
			}
			darken(t, b)
			was := b.Copy()
			for m := range 3 {
				wantNoCell(t, "dark", h, at(0, m), c.errs[m])
			}
			wantNoStripe(t, "dark", h, 0, c.errs[0])
			wantSound(t, "dark", h, 0, false, c.errs[3])
			wantSame(t, "dark", b, was)
			wantTold(t, "dark", h, 0, c.r)
			if n > 0 || h.State() == api.Failed {
				continue
			}
			wantOK(t, "bench.Crash", b.Crash(nil))
			wantStripe(t, h, 0, l[0])
		}
	}
}

// Where the power is cut while a member that was found dead is saved, it is not lost
// yet; behind the cut it is found anew.
func TestCut(t *testing.T) {
	for dead := range 3 {
		for cut := 1; cut <= 5; cut++ {
			for _, do := range []try{celled(1, dead), striped(1), sounded(1)} {
				l := sound(small)
				b := laid(t, small, l)
				h := made(t, b, small3("iii", 0))
				fail(t, b, dead)
				wantOK(t, "bench.Arm", b.Arm(cut))
				if cut == 5 {
					// The save has four steps.
					if got := do.do(h); got.e == api.ErrPower {
						t.Fatalf("%s: cut at %d", do.name, cut)
					}
					wantTold(t, do.name, h, 1, one(small, dead, api.Lost, 0))
					continue
				}
				for range 2 {
					if got := do.do(h); !got.like(answer{e: api.ErrPower}) {
						t.Fatalf("%s cut at %d = %v, want ErrPower alone", do.name, cut, got)
					}
					wantTold(t, do.name, h, 0, small3("iii", 0))
				}
				wantOK(t, "bench.Crash", b.Crash(nil))
				wantStripe(t, h, 1, l[1])
				if h.State() != api.Degraded {
					t.Fatalf("State = %d", h.State())
				}
			}
		}
	}
}

// P19.3.

// rounds are orders in which the stripes of an array are asked for.
func rounds(g api.Geo) [][]int {
	var up, down, mixed []int
	for s := range g.Stripes {
		up = append(up, s)
		down = append(down, g.Stripes-1-s)
		mixed = append(mixed, s, 5*s%g.Stripes)
	}
	return [][]int{up, down, mixed}
}

// Behind the loss of each member, however it is lost, each cell is as it was.
func TestWhatFollows(t *testing.T) {
	for _, g := range []api.Geo{geo(3, 1), small, geo(3, 7), geo(4, 5), wide} {
		l := sound(g)
		for lost := range g.Members {
			for _, round := range rounds(g) {
				b := laid(t, g, l)
				h := made(t, b, api.Roster{Geo: g})
				for _, s := range round {
					wantSound(t, "ahead of the loss", h, s, true, api.OK)
					wantStripe(t, h, s, l[s])
				}
				fail(t, b, lost)
				for i, s := range round {
					if i%2 == lost%2 {
						wantStripe(t, h, s, l[s])
					}
					for m := range g.Members {
						m = (m + lost + i) % g.Members
						wantCell(t, h, at(s, m), l[s][m])
					}
				}
				wantTold(t, "behind the loss", h, 1, one(g, lost, api.Lost, 0))
			}
		}
	}
}

// Nor do they change while a spare is made anew of what Cell answers; then it may be
// the turn of the next one.
func TestWhatFollowsOfASpare(t *testing.T) {
	for _, g := range []api.Geo{small, geo(5, 6)} {
		l := sound(g)
		b := laid(t, g, l)
		h := made(t, b, api.Roster{Geo: g})
		for lost := range g.Members {
			fail(t, b, lost)
			wantOK(t, "hull.Find", h.Find(lost))
			wantOK(t, "bench.Insert", b.Insert(lost))
			wantOK(t, "hull.Begin", h.Begin(lost))
			for cursor := range g.Stripes {
				for s, row := range l {
					wantStripe(t, h, s, row)
					if s < cursor {
						wantSound(t, "below the Cursor", h, s, true, api.OK)
					} else {
						wantSound(t, "from the Cursor on", h, s, false, api.ErrState)
					}
				}
				x, e := fetch.Cell(h, at(cursor, lost))
				wantOK(t, "Cell", e)
				wantOK(t, "hull.Fill", h.Fill(x))
			}
			wantTold(t, "whole", h, uint64(lost+1), api.Roster{Geo: g})
			for s := range g.Stripes {
				wantSound(t, "whole", h, s, true, api.OK)
			}
		}
	}
}

// What is asked, and what is answered to it.

type answer struct {
	row []api.Block
	yes bool
	e   api.Errno
}

func (a answer) like(b answer) bool {
	return slices.Equal(a.row, b.row) && a.yes == b.yes && a.e == b.e
}

// cellOf is Cell's answer: a row of one, or of none beside an error.
func cellOf(x api.Block, e api.Errno) answer {
	if e != api.OK && x == (api.Block{}) {
		return answer{e: e}
	}
	return answer{row: []api.Block{x}, e: e}
}

// try is one call, and what the document's words say of it: by what hull.Read
// answers, and by what is known of the array.
type try struct {
	name  string
	do    func(h *hull.Hull) answer
	words func(h *hull.Hull) answer
	known func(w *world) answer
}

func celled(stripe, member int) try {
	p := at(stripe, member)
	return try{
		"Cell " + strconv.Itoa(stripe) + " " + strconv.Itoa(member),
		func(h *hull.Hull) answer { return cellOf(fetch.Cell(h, p)) },
		func(h *hull.Hull) answer { return cellOf(cellByWords(h, p)) },
		func(w *world) answer { return cellOf(w.cell(p)) },
	}
}

func striped(stripe int) try {
	return try{
		"Stripe " + strconv.Itoa(stripe),
		func(h *hull.Hull) answer {
			row, e := fetch.Stripe(h, stripe)
			return answer{row: row, e: e}
		},
		func(h *hull.Hull) answer { return stripeByWords(h, stripe) },
		func(w *world) answer { return w.stripe(stripe) },
	}
}

func sounded(stripe int) try {
	return try{
		"Sound " + strconv.Itoa(stripe),
		func(h *hull.Hull) answer {
			yes, e := fetch.Sound(h, stripe)
			return answer{yes: yes, e: e}
		},
		func(h *hull.Hull) answer { return soundByWords(h, stripe) },
		func(w *world) answer { return w.sound(stripe) },
	}
}

// all are calls of each kind, of each place and stripe, there or not.
func all(g api.Geo) []try {
	var l []try
	for s := -1; s <= g.Stripes; s++ {
		l = append(l, striped(s), sounded(s))
		for m := -1; m <= g.Members; m++ {
			l = append(l, celled(s, m))
		}
	}
	return l
}

func cellByWords(h *hull.Hull, p api.Place) (api.Block, api.Errno) {
	x, e := h.Read(p)
	if e != api.ErrNone {
		return x, e
	}
	var parity api.Block
	for m := 0; m < h.Roster().Geo.Members; m++ {
		if m != p.Member {
			x, e := h.Read(at(p.Stripe, m))
			if e == api.ErrNone {
				e = api.ErrFailed
			}
			if e != api.OK {
				return api.Block{}, e
			}
			parity = against(parity, x)
		}
	}
	return parity, api.OK
}

func stripeByWords(h *hull.Hull, stripe int) answer {
	var row []api.Block
	for m := 0; m < h.Roster().Geo.Members; m++ {
		x, e := cellByWords(h, at(stripe, m))
		if e != api.OK {
			return answer{e: e}
		}
		row = append(row, x)
	}
	return answer{row: row}
}

func soundByWords(h *hull.Hull, stripe int) answer {
	var parity api.Block
	for m := 0; m < h.Roster().Geo.Members; m++ {
		x, e := h.Read(at(stripe, m))
		if e == api.ErrNone {
			e = api.ErrState
		}
		if e != api.OK {
			return answer{e: e}
		}
		parity = against(parity, x)
	}
	return answer{yes: parity == api.Block{}}
}

// world is an array as it is: what stands upon its members, which of them are dead,
// and what its hull knows of that. Its power is never cut.
type world struct {
	l     table
	dead  [16]bool
	r     api.Roster
	event uint64
}

func (w *world) failed() bool {
	out := 0
	for _, s := range w.r.States {
		if s != api.InSync {
			out++
		}
	}
	return out > 1 || out == 1 && w.r.Gone
}

// has tells whether a member has a stripe's cell, as its hull knows.
func (w *world) has(p api.Place) bool {
	s := w.r.States[p.Member]
	return s == api.InSync || s == api.Healing && p.Stripe < w.r.Cursor
}

// found is the answer of a call that finds a member dead: the save behind it finds
// all others that are, with an event for each.
func (w *world) found() api.Errno {
	for m, dead := range w.dead {
		if !dead || w.r.States[m] == api.Lost {
			continue
		}
		if w.r.States[m] == api.Healing {
			w.r.Cursor = 0
		}
		w.r.States[m] = api.Lost
		w.event++
	}
	if w.failed() {
		return api.ErrFailed
	}
	return api.ErrNone
}

// refused is why nothing can be told of a stripe.
func (w *world) refused(stripe int) api.Errno {
	if stripe < 0 || stripe >= w.r.Geo.Stripes {
		return api.ErrArg
	}
	if w.failed() {
		return api.ErrFailed
	}
	return api.OK
}

func (w *world) cell(p api.Place) (api.Block, api.Errno) {
	if p.Member < 0 || p.Member >= w.r.Geo.Members {
		return api.Block{}, api.ErrArg
	}
	if e := w.refused(p.Stripe); e != api.OK {
		return api.Block{}, e
	}
	row := w.l[p.Stripe]
	if w.has(p) && !w.dead[p.Member] {
		return row[p.Member], api.OK
	}
	if w.has(p) && w.found() == api.ErrFailed {
		return api.Block{}, api.ErrFailed
	}
	for m := range row {
		if m != p.Member && w.dead[m] {
			return api.Block{}, w.found()
		}
	}
	return told(row, p.Member)[p.Member], api.OK
}

func (w *world) stripe(stripe int) answer {
	var row []api.Block
	for m := range w.r.Geo.Members {
		x, e := w.cell(at(stripe, m))
		if e != api.OK {
			return answer{e: e}
		}
		row = append(row, x)
	}
	return answer{row: row}
}

func (w *world) sound(stripe int) answer {
	if e := w.refused(stripe); e != api.OK {
		return answer{e: e}
	}
	for m := range w.r.Geo.Members {
		if w.has(at(stripe, m)) {
			if !w.dead[m] {
				continue
			}
			if w.found() == api.ErrFailed {
				return answer{e: api.ErrFailed}
			}
		}
		return answer{e: api.ErrState}
	}
	return answer{yes: against(w.l[stripe]...) == api.Block{}}
}

// rosters are all that may be of a geometry.
func rosters(g api.Geo) []api.Roster {
	var l []api.Roster
	add := func(r api.Roster) {
		l = append(l, r)
		r.Gone = true
		l = append(l, r)
	}
	for n := range 1 << g.Members {
		r := api.Roster{Geo: g}
		for m := range g.Members {
			r.States[m] = uint8(n >> m & 1)
		}
		add(r)
		for m := range g.Members {
			for cursor := range g.Stripes {
				if r.States[m] == api.Lost {
					heals := r
					heals.States[m], heals.Cursor = api.Healing, cursor
					add(heals)
				}
			}
		}
	}
	return l
}

// mixed is a table of which each second stripe is sound.
func mixed(g api.Geo) table {
	l := sound(g)
	for s, row := range noise(g) {
		if s%2 == 1 {
			l[s] = row
		}
	}
	return l
}

// asked asks the same of two hulls alike, of one of them by the document's words, and
// says that both answer the same, and are the same behind it.
func asked(t *testing.T, what string, do try, b *bench.Bench, h *hull.Hull, c *bench.Bench, k *hull.Hull) answer {
	t.Helper()
	what += ": " + do.name
	got, by := do.do(h), do.words(k)
	if !got.like(by) {
		t.Fatalf("%s = %v, want %v", what, got, by)
	}
	wantTold(t, what, h, k.Event(), k.Roster())
	wantSame(t, what, b, c)
	return got
}

// Each call, in each situation that there can be, with the power cut at each of its
// steps and not, held against the document's words, and against what is known.
func TestEachSituation(t *testing.T) {
	for _, g := range []api.Geo{small, geo(4, 2)} {
		l := mixed(g)
		for i, r := range rosters(g) {
			for n := range 1 << g.Members {
				w := world{l: l, r: r}
				b := laid(t, g, l)
				for m := range g.Members {
					if n>>m&1 == 1 {
						fail(t, b, m)
						w.dead[m] = true
					}
				}
				what := "roster " + strconv.Itoa(i) + ", dead " + strconv.FormatInt(int64(n), 2)
				for _, do := range all(g) {
					eachCut(t, what, do, b, w)
				}
			}
		}
	}
}

// eachCut asks one thing in one situation, without a cut, and cut at each step.
func eachCut(t *testing.T, what string, do try, b *bench.Bench, w world) {
	t.Helper()
	for cut := 0; ; cut++ {
		b, c, w := b.Copy(), b.Copy(), w
		wantOK(t, "bench.Arm", b.Arm(cut))
		wantOK(t, "bench.Arm", c.Arm(cut))
		h, k := made(t, b, w.r), made(t, c, w.r)
		got := asked(t, what+", cut at "+strconv.Itoa(cut), do, b, h, c, k)
		if b.Dark() {
			if !got.like(answer{e: api.ErrPower}) {
				t.Fatalf("%s, cut at %d: %s = %v, want ErrPower alone", what, cut, do.name, got)
			}
			continue
		}
		if known := do.known(&w); !got.like(known) {
			t.Fatalf("%s: %s = %v, want %v", what, do.name, got, known)
		}
		wantTold(t, what+": "+do.name, h, w.event, w.r)
		if cut > 0 {
			return
		}
	}
}

// Long rows of calls, with members that fail and are put in anew, sectors that are
// written and spoilt, and the power that is cut, held against the document's words.
func TestRows(t *testing.T) {
	for seed := range 300 {
		roll := dice(seed)
		g := geo(3+roll(4), 1+roll(5))
		b := laid(t, g, sound(g))
		c := b.Copy()
		h, k := made(t, b, api.Roster{Geo: g}), made(t, c, api.Roster{Geo: g})
		for n := range 80 {
			upset(t, []*bench.Bench{b, c}, []*hull.Hull{h, k}, g, roll)
			s, m := roll(g.Stripes+2)-1, roll(g.Members+2)-1
			do := []try{celled(s, m), striped(s), sounded(s)}[roll(3)]
			asked(t, "seed "+strconv.Itoa(seed)+", "+strconv.Itoa(n), do, b, h, c, k)
		}
	}
}

// upset is something that comes from without, now and then.
func upset(t *testing.T, benches []*bench.Bench, hulls []*hull.Hull, g api.Geo, roll func(int) int) {
	t.Helper()
	what, m, s, n, x := roll(40), roll(g.Members), roll(g.Stripes), roll(size), some(roll(1000))
	keep := []int{roll(size + 9), roll(size + 9)}
	for i, b := range benches {
		switch h := hulls[i]; what {
		case 0:
			b.Fail(m)
		case 1, 2:
			b.Arm(1 + n%6)
		case 3, 4, 5:
			b.Crash(keep)
		case 6:
			b.Rot(m, supers+s, n, 1)
		case 7, 8:
			h.Write(at(s, m), x)
		case 9, 10, 11, 12:
			b.Insert(m)
			h.Begin(m)
		case 13, 14, 15, 16, 17, 18:
			h.Fill(x)
		case 19:
			h.Gone(n < 8)
		}
	}
}
