package back_test

import (
	"math"
	"slices"
	"strconv"
	"testing"

	"ashlar/api"
	"ashlar/back"
	"ashlar/bench"
	"ashlar/hull"
	"ashlar/roster"
	"ashlar/shelf"
)

// The document's numbers, written out, so that a limit that is asked wrongly is told.
const (
	size       = 64
	supers     = 2
	maxMembers = 16
	maxRoom    = 64
)

// id is the number of the array whose members the tests' hulls are.
const id = 0x0102030405060708

// small has the fewest members, and a stripe for the parity of each of them, and one
// more; wide has the most.
var (
	small = geo(3, 4)
	wide  = geo(16, 64)
)

func geo(members, stripes int) api.Geo {
	return api.Geo{Members: members, Stripes: stripes, Ring: 40}
}

func at(stripe, member int) api.Place { return api.Place{Stripe: stripe, Member: member} }

// parity is the place of a stripe's parity.
func parity(g api.Geo, stripe int) api.Place { return at(stripe, g.Members-1-stripe%g.Members) }

// dice answers numbers from 0 to below a bound, the same ones for the same seed.
func dice(seed int) func(bound int) int {
	n := uint32(seed)*2654435761 + 12345
	return func(bound int) int {
		n = n*1664525 + 1013904223
		return int(n>>8) % bound
	}
}

// some is a block that is another one for each seed.
func some(seed int) api.Block {
	var b api.Block
	roll := dice(seed)
	for i := range b {
		b[i] = byte(roll(256))
	}
	return b
}

// stood is the block that stands at a place of the members of the tests.
func stood(p api.Place) api.Block { return some(1_000_000 + 100*p.Stripe + p.Member) }

// cell is a cell whose block is told by its seed.
func cell(p api.Place, seed int) api.Cell { return api.Cell{Place: p, B: some(seed)} }

// cellsOf are the cells of some members of a stripe, each with a block of its own.
func cellsOf(stripe int, members ...int) []api.Cell {
	var c []api.Cell
	for _, m := range members {
		c = append(c, cell(at(stripe, m), 2000+100*stripe+m))
	}
	return c
}

// upTo are the numbers from one to another, that one too.
func upTo(from, to int) []int {
	var l []int
	for n := from; n <= to; n++ {
		l = append(l, n)
	}
	return l
}

func backwards[T any](l []T) []T {
	l = slices.Clone(l)
	slices.Reverse(l)
	return l
}

// chosen are the numbers below a bound whose bits are set.
func chosen(bits, bound int) []int {
	var l []int
	for n := range bound {
		if bits>>n&1 == 1 {
			l = append(l, n)
		}
	}
	return l
}

// far are numbers of no stripe of the small geometry.
func far() []int {
	return []int{math.MinInt, math.MinInt + 1, math.MinInt32, -1 << 32, -65536, -256, -3, -2, -1,
		4, 5, 15, 16, 63, 64, 65, 255, 256, 257, 65536, 1 << 31, 1 << 32, 1<<32 + 1, math.MaxInt - 2, math.MaxInt - 1, math.MaxInt}
}

// laid is a bench upon which the blocks of a geometry stand for sure, and no superblock.
func laid(t *testing.T, g api.Geo) *bench.Bench {
	t.Helper()
	var sizes []int
	for range g.Members {
		sizes = append(sizes, supers+g.Stripes)
	}
	b, e := bench.New(append(sizes, 10+g.Ring))
	wantOK(t, "bench.New", e)
	for m := range g.Members {
		for s := range g.Stripes {
			wantOK(t, "bench.Write", b.Write(m, supers+s, stood(at(s, m))))
		}
		wantOK(t, "bench.Flush", b.Flush(m))
	}
	return b
}

// hulled is a hull upon a bench, of event 0, of members as a roster says.
func hulled(t *testing.T, b *bench.Bench, r api.Roster) *hull.Hull {
	t.Helper()
	h, e := hull.New(b, id, 0, r)
	wantOK(t, "hull.New", e)
	return h
}

// losing is a roster of members that are all in sync but those that are lost.
func losing(g api.Geo, lost ...int) api.Roster {
	r := api.Roster{Geo: g}
	for _, m := range lost {
		r.States[m] = api.Lost
	}
	return r
}

// healing is a roster of which one member heals, and is made anew up to a stripe.
func healing(g api.Geo, member, cursor int) api.Roster {
	r := api.Roster{Geo: g, Cursor: cursor}
	r.States[member] = api.Healing
	return r
}

// whole is a hull of a geometry, and its bench.
func whole(t *testing.T, g api.Geo, lost ...int) (*hull.Hull, *bench.Bench) {
	t.Helper()
	b := laid(t, g)
	return hulled(t, b, losing(g, lost...)), b
}

// darken cuts the power of a bench, without anything written.
func darken(t *testing.T, b *bench.Bench) {
	t.Helper()
	wantOK(t, "bench.Arm", b.Arm(1))
	want(t, "bench.Flush", b.Flush(b.Devices()-1), api.ErrPower)
}

// lit gives a dark bench its power back, with all kept that was written.
func lit(t *testing.T, b *bench.Bench) {
	t.Helper()
	picks := make([]int, 10_000)
	for i := range picks {
		picks[i] = size
	}
	wantOK(t, "bench.Crash", b.Crash(picks))
}

// shelved is a shelf with room for all stripes of a geometry, upon which some cells
// are dirty, from the record 5 on.
func shelved(t *testing.T, g api.Geo, c ...api.Cell) *shelf.Shelf {
	t.Helper()
	s, e := shelf.New(g, maxRoom)
	wantOK(t, "shelf.New", e)
	wantOK(t, "shelf.Put", s.Put(5, c))
	return s
}

func want(t *testing.T, what string, got, want api.Errno) {
	t.Helper()
	if got != want {
		t.Fatalf("%s = %d, want %d", what, got, want)
	}
}

func wantOK(t *testing.T, what string, e api.Errno) {
	t.Helper()
	want(t, what, e, api.OK)
}

func wantStripe(t *testing.T, s *shelf.Shelf, h *hull.Hull, stripe int, e api.Errno) {
	t.Helper()
	want(t, "Stripe("+strconv.Itoa(stripe)+")", back.Stripe(s, h, stripe), e)
}

func wantAll(t *testing.T, s *shelf.Shelf, h *hull.Hull, e api.Errno) {
	t.Helper()
	want(t, "All", back.All(s, h), e)
}

func wantDirty(t *testing.T, s *shelf.Shelf, stripes ...int) {
	t.Helper()
	if is := s.Dirty(); !slices.Equal(is, stripes) {
		t.Fatalf("Dirty = %v, want %v", is, stripes)
	}
}

func wantCells(t *testing.T, s *shelf.Shelf, stripe int, c ...api.Cell) {
	t.Helper()
	if is := s.Cells(stripe); !slices.Equal(is, c) {
		t.Fatalf("Cells(%d) = %v, want %v", stripe, is, c)
	}
}

func wantSteps(t *testing.T, b *bench.Bench, steps int) {
	t.Helper()
	if b.Steps() != steps {
		t.Fatalf("Steps = %d, want %d", b.Steps(), steps)
	}
}

// wantBlocks says that some cells are read of the members, and what stood at the other
// places; what is read of those that are dead, or not there, is asked for nothing.
func wantBlocks(t *testing.T, b *bench.Bench, g api.Geo, c ...api.Cell) {
	t.Helper()
	for p, x := range blocks(g, c) {
		if got, e := b.Read(p.Member, supers+p.Stripe); e != api.ErrDead && (got != x || e != api.OK) {
			t.Fatalf("Read(%v) = %x, %d, want %x", p, got, e, x)
		}
	}
}

// wantSure says that some cells are sure of the members, and what stood at the others.
func wantSure(t *testing.T, b *bench.Bench, g api.Geo, c ...api.Cell) {
	t.Helper()
	for p, x := range blocks(g, c) {
		if got, e := b.Sure(p.Member, supers+p.Stripe); e != api.ErrDead && (got != x || e != api.OK) {
			t.Fatalf("Sure(%v) = %x, %d, want %x", p, got, e, x)
		}
	}
}

// blocks is what stands at each place of a geometry, with some cells over it.
func blocks(g api.Geo, c []api.Cell) map[api.Place]api.Block {
	l := map[api.Place]api.Block{}
	for stripe := range g.Stripes {
		for member := range g.Members {
			l[at(stripe, member)] = stood(at(stripe, member))
		}
	}
	for _, x := range c {
		l[x.Place] = x.B
	}
	return l
}

// without are the cells of other members than one.
func without(c []api.Cell, member int) []api.Cell {
	return slices.DeleteFunc(slices.Clone(c), func(x api.Cell) bool { return x.Place.Member == member })
}

// told is all that a shelf tells without being changed.
type told struct {
	stripes, dirty []int
	first          uint64
	known          [][]bool
	cells          [][]api.Cell
}

func tell(s *shelf.Shelf, g api.Geo) told {
	a := told{stripes: s.Stripes(), dirty: s.Dirty(), first: s.First()}
	for stripe := range g.Stripes {
		a.known = append(a.known, s.Known(stripe))
		a.cells = append(a.cells, s.Cells(stripe))
	}
	return a
}

func (a told) like(b told) bool {
	return slices.Equal(a.stripes, b.stripes) && slices.Equal(a.dirty, b.dirty) && a.first == b.first &&
		slices.EqualFunc(a.known, b.known, slices.Equal) && slices.EqualFunc(a.cells, b.cells, slices.Equal)
}

// clean is what is told of a shelf that told this, but for some stripes that are clean.
func (a told) clean(s *shelf.Shelf, stripes ...int) told {
	a.cells = slices.Clone(a.cells)
	a.dirty = slices.DeleteFunc(slices.Clone(a.dirty), func(n int) bool { return slices.Contains(stripes, n) })
	for _, stripe := range stripes {
		a.cells[stripe] = nil
	}
	if len(a.dirty) == 0 {
		a.first = 0
	}
	return a
}

func wantTold(t *testing.T, what string, s *shelf.Shelf, g api.Geo, was told) {
	t.Helper()
	if is := tell(s, g); !is.like(was) {
		t.Fatalf("%s: it tells %v, want %v", what, is, was)
	}
}

// The chapter's examples.

func TestExamples(t *testing.T) {
	h, b := whole(t, small)
	c := []api.Cell{cell(at(0, 0), 1), cell(at(1, 2), 2)}
	s := shelved(t, small, c...)
	wantStripe(t, s, h, 5, api.ErrArg)
	wantStripe(t, s, h, 0, api.OK)
	wantDirty(t, s, 1)
	wantAll(t, s, h, api.OK)
	wantDirty(t, s)
	wantAll(t, s, h, api.OK)
	wantSure(t, b, small, c...)
}

// What is not there.

// Without a shelf or a hull that comes ahead of all else, and nothing is done of what
// is there: also of stripes that are none, in the dark, and of an array that is Failed.
func TestNothingThere(t *testing.T) {
	for _, how := range []string{"whole", "failed", "dark", "dead"} {
		h, b := whole(t, small)
		s := shelved(t, small, cellsOf(1, 0, 2)...)
		switch how {
		case "failed":
			h, b = whole(t, small, 0, 1)
		case "dark":
			darken(t, b)
		case "dead":
			wantOK(t, "bench.Fail", b.Fail(0))
		}
		was, steps := tell(s, small), b.Steps()
		for range 2 {
			for _, none := range []*shelf.Shelf{nil, {}} {
				for _, l := range []*hull.Hull{nil, {}, h} {
					wantNone(t, none, l)
				}
			}
			for _, none := range []*hull.Hull{nil, {}} {
				wantNone(t, s, none)
			}
		}
		wantTold(t, how, s, small, was)
		wantSteps(t, b, steps)
		if h.Event() != 0 {
			t.Fatalf("%s: Event = %d", how, h.Event())
		}
	}
}

func wantNone(t *testing.T, s *shelf.Shelf, h *hull.Hull) {
	t.Helper()
	for _, stripe := range append(far(), 0, 1, 2, 3) {
		wantStripe(t, s, h, stripe, api.ErrNil)
	}
	wantAll(t, s, h, api.ErrNil)
}

// A shelf upon which nothing is, and one whose lines are all dirty, are there.
func TestShelvesThatAreThere(t *testing.T) {
	h, b := whole(t, small)
	for room := 1; room <= 4; room++ {
		s, e := shelf.New(small, room)
		wantOK(t, "shelf.New", e)
		wantStripe(t, s, h, 0, api.OK)
		wantAll(t, s, h, api.OK)
		var c []api.Cell
		for stripe := range room {
			c = append(c, cellsOf(stripe, 1)...)
		}
		wantOK(t, "shelf.Put", s.Put(5, c))
		wantStripe(t, s, h, 0, api.OK)
		wantAll(t, s, h, api.OK)
		wantDirty(t, s)
		wantSure(t, b, small, c...)
	}
}

// P21.1.

// A stripe that is none, in whatever state the array is: nothing is done.
func TestStripeOfNoStripe(t *testing.T) {
	for _, how := range []string{"whole", "failed", "dark", "dead"} {
		h, b := whole(t, small)
		s := shelved(t, small, append(cellsOf(0, 0, 2), cellsOf(3, 1)...)...)
		switch how {
		case "failed":
			h, b = whole(t, small, 0, 1)
		case "dark":
			darken(t, b)
		case "dead":
			wantOK(t, "bench.Fail", b.Fail(0))
		}
		was, steps := tell(s, small), b.Steps()
		for _, stripe := range far() {
			wantStripe(t, s, h, stripe, api.ErrArg)
		}
		wantTold(t, how, s, small, was)
		wantSteps(t, b, steps)
		if h.Event() != 0 {
			t.Fatalf("%s: Event = %d", how, h.Event())
		}
	}
}

// The first stripe and the last one are there, and one more is none.
func TestEdgesOfStripes(t *testing.T) {
	for _, g := range []api.Geo{geo(3, 1), small, geo(4, 5), geo(16, 1), geo(3, 64), wide} {
		h, b := whole(t, g)
		last := g.Stripes - 1
		c := append(cellsOf(last, 0, g.Members-1), cellsOf(0, 1)...)
		s := shelved(t, g, c...)
		wantStripe(t, s, h, -1, api.ErrArg)
		wantStripe(t, s, h, g.Stripes, api.ErrArg)
		wantStripe(t, s, h, last, api.OK)
		wantStripe(t, s, h, 0, api.OK)
		wantDirty(t, s)
		wantBlocks(t, b, g, c...)
	}
}

// A stripe without a line, and one of which nothing is dirty: nothing is written, so
// that nothing is refused, and nothing is touched.
func TestStripeOfNothingDirty(t *testing.T) {
	for _, how := range []string{"whole", "failed", "dark", "dead", "armed"} {
		h, b := whole(t, small)
		s := shelved(t, small, append(cellsOf(1, 0, 1, 2), cellsOf(3, 0, 2)...)...)
		if _, e := s.Read(h, at(2, 1)); e != api.OK {
			t.Fatalf("Read = %d", e)
		}
		wantOK(t, "shelf.Clean", s.Clean(1))
		switch how {
		case "failed":
			h, b = whole(t, small, 0, 1)
		case "dark":
			darken(t, b)
		case "dead":
			for m := range 3 {
				wantOK(t, "bench.Fail", b.Fail(m))
			}
		case "armed":
			wantOK(t, "bench.Arm", b.Arm(1))
		}
		was, steps := tell(s, small), b.Steps()
		for range 2 {
			for stripe := range 3 {
				wantStripe(t, s, h, stripe, api.OK)
			}
		}
		wantTold(t, how, s, small, was)
		wantSteps(t, b, steps)
		if h.Event() != 0 || b.Dark() != (how == "dark") {
			t.Fatalf("%s: Event, Dark = %d, %t", how, h.Event(), b.Dark())
		}
	}
}

// Each choice of cells of each stripe, beside others that are dirty, learned and clean:
// these are written, each in one step, and none is flushed; the stripe is clean and
// known still; the others stay as they are.
func TestStripeOfEachCells(t *testing.T) {
	for _, g := range []api.Geo{small, geo(5, 6)} {
		for stripe := range g.Stripes {
			for bits := 1; bits < 1<<g.Members; bits++ {
				h, b := whole(t, g)
				c := cellsOf(stripe, chosen(bits, g.Members)...)
				next, third := (stripe+1)%g.Stripes, (stripe+2)%g.Stripes
				s := shelved(t, g, slices.Concat(cellsOf(next, 1, 0), backwards(c), cellsOf(third, 2))...)
				if _, e := s.Read(h, at((stripe+3)%g.Stripes, 0)); e != api.OK {
					t.Fatalf("Read = %d", e)
				}
				wantOK(t, "shelf.Clean", s.Clean(third))
				was, steps := tell(s, g), b.Steps()
				wantStripe(t, s, h, stripe, api.OK)
				wantSteps(t, b, steps+len(c))
				wantBlocks(t, b, g, c...)
				wantSure(t, b, g)
				wantTold(t, "Stripe", s, g, was.clean(s, stripe))
				wantCells(t, s, next, cellsOf(next, 0, 1)...)
				for _, x := range c {
					if got, e := s.Read(h, x.Place); got != x.B || e != api.OK {
						t.Fatalf("Read(%v) = %x, %d", x.Place, got, e)
					}
				}
				wantStripe(t, s, h, stripe, api.OK)
				wantSteps(t, b, steps+len(c))
			}
		}
	}
}

// A stripe of the widest array, all of it, and each cell alone.
func TestStripeOfTheWidest(t *testing.T) {
	for _, stripe := range []int{0, 1, 15, 16, 62, 63} {
		h, b := whole(t, wide)
		c := cellsOf(stripe, upTo(0, maxMembers-1)...)
		s := shelved(t, wide, backwards(c)...)
		wantStripe(t, s, h, stripe, api.OK)
		wantBlocks(t, b, wide, c...)
		wantDirty(t, s)
		for m := range maxMembers {
			x := cell(at(stripe, m), m)
			wantOK(t, "shelf.Put", s.Put(7, []api.Cell{x}))
			wantStripe(t, s, h, stripe, api.OK)
			c[m] = x
		}
		wantBlocks(t, b, wide, c...)
	}
}

// What is known, but was learned, is not written: the member may have another one by
// now. Of what was put twice the last one is; what was dirty, and was forgotten, is not.
func TestStripeWritesWhatIsDirty(t *testing.T) {
	for stripe := range 4 {
		p := parity(small, stripe)
		d, o := at(stripe, (p.Member+1)%3), at(stripe, (p.Member+2)%3)
		h, b := whole(t, small)
		s := shelved(t, small)
		if _, e := s.Read(h, o); e != api.OK {
			t.Fatalf("Read = %d", e)
		}
		wantOK(t, "hull.Write", h.Write(o, some(9)))
		wantOK(t, "shelf.Put", s.Put(5, []api.Cell{cell(p, 1), cell(d, 2)}))
		wantOK(t, "shelf.Put", s.Put(6, []api.Cell{cell(d, 3)}))
		wantStripe(t, s, h, stripe, api.OK)
		wantBlocks(t, b, small, cell(o, 9), cell(d, 3))
		// What is dirty anew behind it goes home anew, and alone.
		wantOK(t, "hull.Write", h.Write(d, some(8)))
		wantOK(t, "shelf.Put", s.Put(7, []api.Cell{cell(p, 4)}))
		wantStripe(t, s, h, stripe, api.OK)
		wantBlocks(t, b, small, cell(o, 9), cell(d, 8), cell(p, 4))
		// What was dropped does not go home.
		wantOK(t, "shelf.Put", s.Put(8, []api.Cell{cell(d, 5), cell(p, 6)}))
		wantOK(t, "shelf.Drop", s.Drop(stripe))
		wantStripe(t, s, h, stripe, api.OK)
		wantBlocks(t, b, small, cell(o, 9), cell(d, 8), cell(p, 4))
	}
}

// The power is cut at each step: what was written are the first of the cells, by
// members; the stripe is dirty still, with the same cells; in the dark all is refused;
// anew behind it all is written.
func TestStripeCut(t *testing.T) {
	for _, g := range []api.Geo{small, geo(5, 2)} {
		for bits := 1; bits < 1<<g.Members; bits++ {
			c := cellsOf(1, chosen(bits, g.Members)...)
			for cut := 1; cut <= len(c)+1; cut++ {
				h, b := whole(t, g)
				s := shelved(t, g, append(backwards(c), cellsOf(0, 1)...)...)
				was, steps := tell(s, g), b.Steps()
				wantOK(t, "bench.Arm", b.Arm(cut))
				if cut > len(c) {
					wantStripe(t, s, h, 1, api.OK)
					wantTold(t, "no cut", s, g, was.clean(s, 1))
					continue
				}
				for range 2 {
					wantStripe(t, s, h, 1, api.ErrPower)
					wantTold(t, "a cut", s, g, was)
					wantSteps(t, b, steps+cut-1)
				}
				lit(t, b)
				wantBlocks(t, b, g, c[:cut-1]...)
				wantStripe(t, s, h, 1, api.OK)
				wantBlocks(t, b, g, c...)
				wantTold(t, "anew", s, g, was.clean(s, 1))
				wantSteps(t, b, steps+cut-1+len(c))
			}
		}
	}
}

// A member that is lost takes nothing, and hinders nothing, be its device dead or there.
func TestStripeOfOneLost(t *testing.T) {
	for _, g := range []api.Geo{small, geo(5, 2)} {
		for lost := range g.Members {
			for bits := 1; bits < 1<<g.Members; bits++ {
				for _, dead := range []bool{false, true} {
					h, b := whole(t, g, lost)
					if dead {
						wantOK(t, "bench.Fail", b.Fail(lost))
					}
					c := cellsOf(1, chosen(bits, g.Members)...)
					s := shelved(t, g, c...)
					was, steps := tell(s, g), b.Steps()
					wantStripe(t, s, h, 1, api.OK)
					wantTold(t, "one lost", s, g, was.clean(s, 1))
					wantBlocks(t, b, g, without(c, lost)...)
					wantSteps(t, b, steps+len(without(c, lost)))
				}
			}
		}
	}
}

// A member that heals takes what is below its cursor alone.
func TestStripeOfOneThatHeals(t *testing.T) {
	for _, g := range []api.Geo{small, geo(4, 6)} {
		for heals := range g.Members {
			for cursor := range g.Stripes {
				for stripe := range g.Stripes {
					b := laid(t, g)
					h := hulled(t, b, healing(g, heals, cursor))
					c := cellsOf(stripe, upTo(0, g.Members-1)...)
					s := shelved(t, g, c...)
					wantStripe(t, s, h, stripe, api.OK)
					wantDirty(t, s)
					if stripe < cursor {
						wantBlocks(t, b, g, c...)
					} else {
						wantBlocks(t, b, g, without(c, heals)...)
					}
				}
			}
		}
	}
}

// A member that is dead, and not known to be, is found dead if a cell is its own, and
// all else is written.
func TestStripeFindsOneDead(t *testing.T) {
	for _, g := range []api.Geo{small, geo(5, 2)} {
		for dead := range g.Members {
			for bits := 1; bits < 1<<g.Members; bits++ {
				h, b := whole(t, g)
				wantOK(t, "bench.Fail", b.Fail(dead))
				c := cellsOf(0, chosen(bits, g.Members)...)
				s := shelved(t, g, append(cellsOf(1, 0, 1), c...)...)
				was := tell(s, g)
				wantStripe(t, s, h, 0, api.OK)
				wantTold(t, "found dead", s, g, was.clean(s, 0))
				wantBlocks(t, b, g, without(c, dead)...)
				state, event := api.Optimal, 0
				if bits>>dead&1 == 1 {
					state, event = api.Degraded, 1
				}
				if h.State() != state || h.Event() != uint64(event) {
					t.Fatalf("State, Event = %d, %d, want %d, %d", h.State(), h.Event(), state, event)
				}
			}
		}
	}
}

// Of an array that is Failed nothing is written.
func TestStripeOfAFailedArray(t *testing.T) {
	gone := losing(small, 2)
	gone.Gone = true
	for _, r := range []api.Roster{losing(small, 0, 1), losing(small, 0, 1, 2), gone} {
		b := laid(t, small)
		h := hulled(t, b, r)
		s := shelved(t, small, append(cellsOf(1, 0, 1, 2), cellsOf(2, 0)...)...)
		was, steps := tell(s, small), b.Steps()
		for range 2 {
			wantStripe(t, s, h, 1, api.ErrFailed)
			wantStripe(t, s, h, 2, api.ErrFailed)
		}
		wantTold(t, "Failed", s, small, was)
		wantSteps(t, b, steps)
	}
}

// Where a second one is found dead, the array is Failed there: what was written ahead
// of it is written, nothing behind it, and the stripe is dirty still.
func TestStripeFindsTwoDead(t *testing.T) {
	for _, g := range []api.Geo{small, geo(5, 2)} {
		for one := range g.Members {
			for two := range g.Members {
				if two == one {
					continue
				}
				for _, known := range []bool{false, true} {
					h, b := whole(t, g)
					if known {
						h, b = whole(t, g, one)
					}
					wantOK(t, "bench.Fail", b.Fail(one))
					wantOK(t, "bench.Fail", b.Fail(two))
					c := cellsOf(1, upTo(0, g.Members-1)...)
					s := shelved(t, g, append(cellsOf(0, 1), c...)...)
					was := tell(s, g)
					wantStripe(t, s, h, 1, api.ErrFailed)
					wantTold(t, "Failed", s, g, was)
					// A save that finds a dead one finds the other one, too.
					end := two
					if !known {
						end = min(one, two)
					}
					wantBlocks(t, b, g, c[:end]...)
					if h.State() != api.Failed {
						t.Fatalf("State = %d", h.State())
					}
					wantStripe(t, s, h, 1, api.ErrFailed)
					wantTold(t, "Failed", s, g, was)
				}
			}
		}
	}
}

// The power is cut in the midst of what finds a member dead: the stripe is dirty still,
// and behind it goes home anew.
func TestStripeCutWhereOneIsFoundDead(t *testing.T) {
	for dead := range 3 {
		for cut := 1; cut <= 7; cut++ {
			h, b := whole(t, small)
			wantOK(t, "bench.Fail", b.Fail(dead))
			c := cellsOf(2, 0, 1, 2)
			s := shelved(t, small, c...)
			was := tell(s, small)
			wantOK(t, "bench.Arm", b.Arm(cut))
			if cut == 7 { // Two are written, and two superblocks, and flushed.
				wantStripe(t, s, h, 2, api.OK)
				continue
			}
			wantStripe(t, s, h, 2, api.ErrPower)
			wantTold(t, "a cut", s, small, was)
			lit(t, b)
			wantStripe(t, s, h, 2, api.OK)
			wantTold(t, "anew", s, small, was.clean(s, 2))
			wantBlocks(t, b, small, without(c, dead)...)
			if h.State() != api.Degraded {
				t.Fatalf("State = %d", h.State())
			}
		}
	}
}

// A hull that has fewer stripes or members says so, and that ends it.
func TestStripeOfAnotherHull(t *testing.T) {
	less, b := whole(t, geo(3, 2))
	s := shelved(t, geo(4, 4), slices.Concat(cellsOf(2, 0), cellsOf(1, 0, 2, 3))...)
	was := tell(s, geo(4, 4))
	wantStripe(t, s, less, 2, api.ErrArg)
	wantStripe(t, s, less, 1, api.ErrArg)
	wantTold(t, "another hull", s, geo(4, 4), was)
	wantBlocks(t, b, geo(3, 2), cellsOf(1, 0, 2)...)
	steps := b.Steps()
	wantAll(t, s, less, api.ErrArg)
	wantTold(t, "another hull", s, geo(4, 4), was)
	wantSteps(t, b, steps+2) // the two cells anew; nothing is flushed
}

// P21.2.

// Where nothing is dirty the flush is done all the same: what was written is sure.
func TestAllOfNothingDirty(t *testing.T) {
	for _, g := range []api.Geo{geo(3, 1), small, wide} {
		h, b := whole(t, g)
		s := shelved(t, g)
		c := cellsOf(g.Stripes-1, upTo(0, g.Members-1)...)
		for _, x := range c {
			wantOK(t, "hull.Write", h.Write(x.Place, x.B))
		}
		wantSure(t, b, g)
		steps := b.Steps()
		wantAll(t, s, h, api.OK)
		wantSure(t, b, g, c...)
		wantSteps(t, b, steps+g.Members)
		wantAll(t, s, h, api.OK)
		wantSteps(t, b, steps+2*g.Members)
		wantTold(t, "nothing dirty", s, g, tell(shelved(t, g), g))
	}
}

// Each choice of stripes, put in whatever order: all go home, and it is sure; what is
// known is known still.
func TestAllOfEachStripes(t *testing.T) {
	for bits := range 1 << 4 {
		stripes := chosen(bits, 4)
		var c []api.Cell
		for _, stripe := range stripes {
			c = append(c, cellsOf(stripe, chosen(1+(stripe+bits)%7, 3)...)...)
		}
		for _, l := range [][]api.Cell{c, backwards(c)} {
			h, b := whole(t, small)
			s := shelved(t, small, l...)
			was, steps := tell(s, small), b.Steps()
			wantDirty(t, s, stripes...)
			wantAll(t, s, h, api.OK)
			wantTold(t, "All", s, small, was.clean(s, stripes...))
			wantSure(t, b, small, c...)
			wantSteps(t, b, steps+len(c)+3)
			for _, x := range c {
				if got, e := s.Read(h, x.Place); got != x.B || e != api.OK {
					t.Fatalf("Read(%v) = %x, %d", x.Place, got, e)
				}
			}
			wantAll(t, s, h, api.OK)
			wantSteps(t, b, steps+len(c)+6)
			wantSure(t, b, small, c...)
		}
	}
}

func TestAllOfTheWidest(t *testing.T) {
	h, b := whole(t, wide)
	s := shelved(t, wide)
	var c []api.Cell
	for n := range 64 {
		l := cellsOf(n*27%64, upTo(0, maxMembers-1)...)
		wantOK(t, "shelf.Put", s.Put(uint64(100-n), l))
		c = append(c, l...)
	}
	steps := b.Steps()
	wantAll(t, s, h, api.OK)
	wantDirty(t, s)
	wantSure(t, b, wide, c...)
	wantSteps(t, b, steps+64*maxMembers+maxMembers)
}

// The power is cut at each step: the stripes ahead of it are clean, that one and those
// behind it are dirty, as they were, and nothing of those behind it is written; where
// the flush is cut all are clean, and of the members ahead of it all is sure.
func TestAllCut(t *testing.T) {
	stripes := [][]api.Cell{cellsOf(0, 0, 2), cellsOf(1, 1), cellsOf(2, 0, 1, 2), cellsOf(3, 1, 2)}
	c := slices.Concat(stripes...)
	for _, put := range [][]api.Cell{c, backwards(c)} {
		for cut := 1; cut <= len(c)+4; cut++ {
			h, b := whole(t, small)
			s := shelved(t, small, put...)
			was, steps := tell(s, small), b.Steps()
			wantOK(t, "bench.Arm", b.Arm(cut))
			if cut == len(c)+4 {
				wantAll(t, s, h, api.OK)
				continue
			}
			wantAll(t, s, h, api.ErrPower)
			wantSteps(t, b, steps+cut-1)
			var home []int
			for stripe, written := 0, cut-1; stripe < 4 && written >= len(stripes[stripe]); stripe++ {
				written -= len(stripes[stripe])
				home = append(home, stripe)
			}
			wantTold(t, "a cut", s, small, was.clean(s, home...))
			flushed := max(0, cut-1-len(c))
			wantSure(t, b, small, slices.DeleteFunc(slices.Clone(c), func(x api.Cell) bool { return x.Place.Member >= flushed })...)
			if len(home) < 4 {
				wantAll(t, s, h, api.ErrPower)
				wantTold(t, "in the dark", s, small, was.clean(s, home...))
			}
			lit(t, b)
			wantBlocks(t, b, small, c[:min(cut-1, len(c))]...)
			wantAll(t, s, h, api.OK)
			wantTold(t, "anew", s, small, was.clean(s, 0, 1, 2, 3))
			wantSure(t, b, small, c...)
		}
	}
}

// In the dark, with nothing dirty, the flush says so.
func TestAllInTheDark(t *testing.T) {
	h, b := whole(t, small)
	s := shelved(t, small)
	darken(t, b)
	wantAll(t, s, h, api.ErrPower)
	wantOK(t, "bench.Crash", b.Crash(nil))
	wantAll(t, s, h, api.OK)
}

// Stripe by stripe to the first error: a second member is found dead at each of the
// stripes.
func TestAllToTheFirstError(t *testing.T) {
	for end := range 4 {
		for dead := range 2 {
			h, b := whole(t, small, 2)
			wantOK(t, "bench.Fail", b.Fail(dead))
			var c []api.Cell
			for stripe := range 4 {
				if stripe < end {
					c = append(c, cellsOf(stripe, 1-dead)...)
				}
			}
			written := append(slices.Clone(c), without(cellsOf(end, upTo(0, dead)...), dead)...)
			for stripe := end; stripe < 4; stripe++ {
				c = append(c, cellsOf(stripe, 0, 1, 2)...)
			}
			s := shelved(t, small, backwards(c)...)
			was := tell(s, small)
			wantAll(t, s, h, api.ErrFailed)
			wantTold(t, "an error", s, small, was.clean(s, upTo(0, end-1)...))
			wantBlocks(t, b, small, written...)
			wantAll(t, s, h, api.ErrFailed)
			wantTold(t, "Failed", s, small, was.clean(s, upTo(0, end-1)...))
		}
	}
}

// Of an array that is Failed: nothing is written, and where nothing is dirty the flush
// says so.
func TestAllOfAFailedArray(t *testing.T) {
	h, b := whole(t, small, 0, 1)
	s := shelved(t, small, cellsOf(1, 2)...)
	was, steps := tell(s, small), b.Steps()
	wantAll(t, s, h, api.ErrFailed)
	wantTold(t, "Failed", s, small, was)
	wantAll(t, shelved(t, small), h, api.ErrFailed)
	wantSteps(t, b, steps)
}

// An error of the flush: all is home, and those that are there still are flushed.
func TestAllWhoseFlushFails(t *testing.T) {
	g := geo(4, 3)
	for lost := range 4 {
		for dead := range 4 {
			if dead == lost {
				continue
			}
			h, b := whole(t, g, lost)
			wantOK(t, "bench.Fail", b.Fail(dead))
			there := slices.DeleteFunc(upTo(0, 3), func(m int) bool { return m == lost || m == dead })
			c := append(cellsOf(0, there...), cellsOf(2, there[0])...)
			s := shelved(t, g, c...)
			was := tell(s, g)
			wantAll(t, s, h, api.ErrFailed)
			wantTold(t, "the flush", s, g, was.clean(s, 0, 2))
			wantSure(t, b, g, c...)
			if h.State() != api.Failed {
				t.Fatalf("State = %d", h.State())
			}
		}
	}
}

// A member that is dead, found by a cell or by the flush alone: the others have it all.
func TestAllFindsOneDead(t *testing.T) {
	for dead := range 3 {
		for bits := range 1 << 3 {
			h, b := whole(t, small)
			wantOK(t, "bench.Fail", b.Fail(dead))
			c := append(cellsOf(0, chosen(bits, 3)...), cellsOf(3, chosen(7-bits, 3)...)...)
			s := shelved(t, small, c...)
			was := tell(s, small)
			wantAll(t, s, h, api.OK)
			wantTold(t, "found dead", s, small, was.clean(s, 0, 3))
			wantSure(t, b, small, without(c, dead)...)
			if h.State() != api.Degraded || h.Event() != 1 {
				t.Fatalf("State, Event = %d, %d", h.State(), h.Event())
			}
		}
	}
}

// A member that heals has what is below its cursor, for sure, and nothing else.
func TestAllOfOneThatHeals(t *testing.T) {
	g := geo(4, 6)
	for heals := range 4 {
		for cursor := range 6 {
			b := laid(t, g)
			h := hulled(t, b, healing(g, heals, cursor))
			var c, written []api.Cell
			for stripe := range 6 {
				l := cellsOf(stripe, 3, 1, 2, 0)
				c = append(c, l...)
				if stripe >= cursor {
					l = without(l, heals)
				}
				written = append(written, l...)
			}
			s := shelved(t, g, c...)
			wantAll(t, s, h, api.OK)
			wantDirty(t, s)
			wantSure(t, b, g, written...)
		}
	}
}

// P21.3, and the document's words, over a table of what is dirty.

// twins are a shelf, a hull and a bench, and others that are given the same, by the
// document's words.
type twins struct {
	g     api.Geo
	b, c  *bench.Bench
	h, k  *hull.Hull
	s, u  *shelf.Shelf
	dirty map[api.Place]api.Block
	l     []string // what was done
}

func both(t *testing.T, g api.Geo, room int) *twins {
	t.Helper()
	w := &twins{g: g, b: laid(t, g), dirty: map[api.Place]api.Block{}}
	w.c = w.b.Copy()
	w.h, w.k = hulled(t, w.b, losing(g)), hulled(t, w.c, losing(g))
	w.s, _ = shelf.New(g, room)
	w.u, _ = shelf.New(g, room)
	return w
}

// stripe is Stripe by the words.
func (w *twins) stripe(stripe int) api.Errno {
	if stripe < 0 || stripe >= w.g.Stripes {
		return api.ErrArg
	}
	for m := range w.g.Members {
		if x, is := w.dirty[at(stripe, m)]; is {
			if e := w.k.Write(at(stripe, m), x); e != api.OK {
				return e
			}
		}
	}
	for m := range w.g.Members {
		delete(w.dirty, at(stripe, m))
	}
	return w.u.Clean(stripe)
}

// all is All by the words.
func (w *twins) all() api.Errno {
	for stripe := range w.g.Stripes {
		for m := range w.g.Members {
			if _, is := w.dirty[at(stripe, m)]; is {
				if e := w.stripe(stripe); e != api.OK {
					return e
				}
			}
		}
	}
	return w.k.Flush()
}

// put puts cells upon both shelves.
func (w *twins) put(t *testing.T, seq uint64, c []api.Cell) {
	t.Helper()
	e := w.s.Put(seq, c)
	want(t, "shelf.Put", w.u.Put(seq, c), e)
	if e != api.OK {
		return
	}
	for _, x := range c {
		delete(w.dirty, parity(w.g, x.Place.Stripe))
	}
	for _, x := range c {
		w.dirty[x.Place] = x.B
	}
}

// drop drops a stripe of both shelves.
func (w *twins) drop(t *testing.T, stripe int) {
	t.Helper()
	wantOK(t, "shelf.Drop", w.s.Drop(stripe))
	wantOK(t, "shelf.Drop", w.u.Drop(stripe))
	for m := range w.g.Members {
		delete(w.dirty, at(stripe, m))
	}
}

// read reads of both shelves.
func (w *twins) read(t *testing.T, p api.Place) {
	t.Helper()
	x, e := w.s.Read(w.h, p)
	if y, f := w.u.Read(w.k, p); x != y || e != f {
		t.Fatalf("behind %q: Read(%v) = %x, %d, want %x, %d", w.l, p, x, e, y, f)
	}
}

// alike says that both are the same.
func (w *twins) alike(t *testing.T) {
	t.Helper()
	if got, want := tell(w.s, w.g), tell(w.u, w.g); !got.like(want) {
		t.Fatalf("behind %q: it tells %v, want %v", w.l, got, want)
	}
	if w.h.Event() != w.k.Event() || w.h.Roster() != w.k.Roster() || w.b.Steps() != w.c.Steps() || w.b.Dark() != w.c.Dark() {
		t.Fatalf("behind %q: Event, Steps = %d %d, want %d %d", w.l, w.h.Event(), w.b.Steps(), w.k.Event(), w.c.Steps())
	}
	for d := range w.g.Members {
		for n := range w.b.Sectors(d) {
			x, e := w.b.Read(d, n)
			y, f := w.c.Read(d, n)
			a, _ := w.b.Sure(d, n)
			b, _ := w.c.Sure(d, n)
			if x != y || e != f || a != b {
				t.Fatalf("behind %q: the device %d, sector %d: %x, %d, sure %x, want %x, %d, sure %x", w.l, d, n, x, e, a, y, f, b)
			}
		}
	}
}

// goHome is a Stripe or an All of both, and what follows.
func (w *twins) goHome(t *testing.T, stripe int, all bool) {
	t.Helper()
	if !all {
		w.l = append(w.l, "Stripe "+strconv.Itoa(stripe))
		e := back.Stripe(w.s, w.h, stripe)
		want(t, strconv.Quote(w.l[len(w.l)-1]), e, w.stripe(stripe))
		return
	}
	w.l = append(w.l, "All")
	was := w.dirty
	w.dirty = map[api.Place]api.Block{}
	for p, x := range was {
		w.dirty[p] = x
	}
	e := back.All(w.s, w.h)
	want(t, "All", e, w.all())
	if e != api.OK {
		return
	}
	wantDirty(t, w.s)
	for p, x := range was {
		if !roster.Has(w.h.Roster(), p.Member, p.Stripe) {
			continue
		}
		if is, e := w.b.Sure(p.Member, supers+p.Stripe); is != x || e != api.OK {
			t.Fatalf("behind %q: Sure(%v) = %x, %d, want %x", w.l, p, is, e, x)
		}
	}
}

// upset is something that comes from without, now and then.
func (w *twins) upset(roll func(int) int) {
	what, m, s, n, x := roll(60), roll(w.g.Members), roll(w.g.Stripes), roll(size), some(roll(1000))
	for i, b := range []*bench.Bench{w.b, w.c} {
		switch h := []*hull.Hull{w.h, w.k}[i]; what {
		case 0:
			b.Fail(m)
		case 1, 2:
			b.Arm(1 + n%12)
		case 3, 4, 5:
			b.Crash([]int{n, 2 * n, 64, 0, 64, n})
		case 6:
			b.Rot(m, supers+s, n, 1)
		case 7, 8:
			h.Write(at(s, m), x)
		case 9, 10, 11, 12:
			b.Insert(m)
			h.Begin(m)
		case 13, 14, 15, 16, 17, 18, 19, 20:
			h.Fill(x)
		case 21:
			h.Gone(n < 8)
		}
	}
}

// act is one call of any kind.
func (w *twins) act(t *testing.T, roll func(int) int, n int) {
	t.Helper()
	stripe, member := roll(w.g.Stripes), roll(w.g.Members)
	switch kind := roll(20); {
	case kind < 9:
		w.l = append(w.l, "Put")
		var c []api.Cell
		for i := range 1 + roll(5) {
			p := at(stripe, roll(w.g.Members))
			if roll(3) == 0 {
				p.Stripe = roll(w.g.Stripes)
			}
			c = append(c, cell(p, 100*n+i))
			if roll(2) == 0 {
				c = append(c, cell(parity(w.g, p.Stripe), 100*n+50+i))
			}
		}
		w.put(t, uint64(1+roll(500)), c)
	case kind < 11:
		w.l = append(w.l, "Read")
		w.read(t, at(stripe, member))
	case kind < 12:
		w.l = append(w.l, "Drop")
		w.drop(t, stripe)
	case kind < 17:
		if roll(20) == 0 {
			stripe = w.g.Stripes
		}
		w.goHome(t, stripe, false)
	default:
		w.goHome(t, 0, true)
	}
}

// Long rows of calls, with members that fail and heal, and the power that is cut,
// between them and in their midst.
func TestRows(t *testing.T) {
	for seed := range 300 {
		roll := dice(seed)
		g := geo(3+roll(4), 1+roll(9))
		w := both(t, g, 1+roll(g.Stripes+2))
		for n := range 80 {
			if seed%4 > 0 {
				w.upset(roll)
			}
			w.act(t, roll, n)
			w.alike(t)
		}
		w.b.Crash(nil)
		w.c.Crash(nil)
		w.goHome(t, 0, true)
		w.alike(t)
	}
}

// What went home by Stripe alone is made sure by the next All, too, and stays wherever
// the power is cut behind it.
func TestAllMakesSureWhatWentHomeAheadOfIt(t *testing.T) {
	h, b := whole(t, small)
	c := slices.Concat(cellsOf(0, 0, 1), cellsOf(2, 1, 2), cellsOf(3, 0))
	s := shelved(t, small, c...)
	wantStripe(t, s, h, 2, api.OK)
	wantStripe(t, s, h, 0, api.OK)
	wantSure(t, b, small)
	wantAll(t, s, h, api.OK)
	wantSure(t, b, small, c...)
	wantOK(t, "bench.Crash", b.Crash(nil))
	wantBlocks(t, b, small, c...)
}

// The last of what was put is what is sure.
func TestAllOfWhatWasPutTwice(t *testing.T) {
	for stripe := range 4 {
		h, b := whole(t, small)
		s := shelved(t, small, cellsOf(stripe, 0, 1, 2)...)
		c := []api.Cell{cell(at(stripe, 0), 1), cell(at(stripe, 1), 2), cell(at(stripe, 2), 3)}
		wantOK(t, "shelf.Put", s.Put(6, append([]api.Cell{cell(at(stripe, 1), 4)}, c...)))
		wantAll(t, s, h, api.OK)
		wantSure(t, b, small, c...)
		wantOK(t, "shelf.Put", s.Put(9, cellsOf(stripe, 0, 1, 2)))
		wantOK(t, "shelf.Put", s.Put(9, c))
		wantAll(t, s, h, api.OK)
		wantSure(t, b, small, c...)
	}
}

// The rules that hold everywhere.

// What a call answers hangs on what its shelf and hull were given alone: one beside it
// is as if it was not.
func TestApart(t *testing.T) {
	h, b := whole(t, small)
	i, c := whole(t, small)
	s, u := shelved(t, small, cellsOf(1, 0, 1)...), shelved(t, small, cellsOf(2, 2)...)
	was, steps := tell(u, small), c.Steps()
	wantStripe(t, s, h, 1, api.OK)
	wantAll(t, s, h, api.OK)
	wantTold(t, "the other one", u, small, was)
	wantSteps(t, c, steps)
	steps = b.Steps()
	wantAll(t, u, i, api.OK)
	wantSure(t, c, small, cellsOf(2, 2)...)
	wantSure(t, b, small, cellsOf(1, 0, 1)...)
	wantSteps(t, b, steps)
}
