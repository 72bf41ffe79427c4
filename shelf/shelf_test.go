package shelf_test

import (
	"math"
	"slices"
	"strconv"
	"testing"

	"ashlar/api"
	"ashlar/bench"
	"ashlar/fetch"
	"ashlar/hull"
	"ashlar/shelf"
)

// The document's numbers, written out, so that a limit that is asked wrongly is told.
const (
	size       = 64
	supers     = 2
	minMembers = 3
	maxMembers = 16
	maxStripes = 64
	maxRoom    = 64
)

// id is the number of the array whose members the tests' hulls are.
const id = 0x0102030405060708

// small has the fewest members, and a stripe for the parity of each of them, and one
// more; wide has the most.
var (
	small = geo(3, 4)
	wide  = geo(16, 64)
)

func geo(members, stripes int) api.Geo {
	return api.Geo{Members: members, Stripes: stripes, Ring: 40}
}

func at(stripe, member int) api.Place { return api.Place{Stripe: stripe, Member: member} }

// parity is the place of a stripe's parity.
func parity(g api.Geo, stripe int) api.Place { return at(stripe, g.Members-1-stripe%g.Members) }

// first is the place of a stripe's first data.
func first(g api.Geo, stripe int) api.Place {
	return at(stripe, (parity(g, stripe).Member+1)%g.Members)
}

// dice answers numbers from 0 to below a bound, the same ones for the same seed.
func dice(seed int) func(bound int) int {
	n := uint32(seed)*2654435761 + 12345
	return func(bound int) int {
		n = n*1664525 + 1013904223
		return int(n>>8) % bound
	}
}

// some is a block that is another one for each seed.
func some(seed int) api.Block {
	var b api.Block
	roll := dice(seed)
	for i := range b {
		b[i] = byte(roll(256))
	}
	return b
}

// stood is the block that stands at a place of the members of the tests; no block of a
// stripe can be told by the others, and no other block of the tests is like one of these.
func stood(p api.Place) api.Block { return some(1_000_000 + 100*p.Stripe + p.Member) }

// others is what the other members tell of a place.
func others(g api.Geo, p api.Place) (x api.Block) {
	for m := range g.Members {
		if m != p.Member {
			b := stood(at(p.Stripe, m))
			for i := range x {
				x[i] ^= b[i]
			}
		}
	}
	return x
}

// cell is a cell whose block is told by its seed.
func cell(p api.Place, seed int) api.Cell { return api.Cell{Place: p, B: some(seed)} }

// upTo are the numbers from one to another, that one too.
func upTo(from, to int) []int {
	var l []int
	for n := from; n <= to; n++ {
		l = append(l, n)
	}
	return l
}

func backwards(l []int) []int {
	l = slices.Clone(l)
	slices.Reverse(l)
	return l
}

// far are numbers of no member and of no stripe of the small geometry.
func far() []int {
	return []int{math.MinInt, math.MinInt + 1, math.MinInt32, -1 << 32, -65536, -256, -3, -2, -1,
		4, 5, 15, 16, 63, 64, 65, 255, 256, 257, 65536, 1 << 31, 1 << 32, 1<<32 + 1, math.MaxInt - 2, math.MaxInt - 1, math.MaxInt}
}

// noPlaces are places that the small geometry has not.
func noPlaces() []api.Place {
	var l []api.Place
	for _, n := range far() {
		l = append(l, at(n, 0), at(0, n), at(n, n), at(n, 2), at(3, n), at(n, 3))
	}
	for s := range small.Stripes {
		l = append(l, at(s, 3), at(s, -1))
	}
	return l
}

// laid is a bench upon which the blocks of a geometry stand for sure, and no superblock.
func laid(t *testing.T, g api.Geo) *bench.Bench {
	t.Helper()
	var sizes []int
	for range g.Members {
		sizes = append(sizes, supers+g.Stripes)
	}
	b, e := bench.New(append(sizes, 10+g.Ring))
	wantOK(t, "bench.New", e)
	for m := range g.Members {
		for s := range g.Stripes {
			wantOK(t, "bench.Write", b.Write(m, supers+s, stood(at(s, m))))
		}
		wantOK(t, "bench.Flush", b.Flush(m))
	}
	return b
}

// hulled is a hull upon a bench, of event 0, whose members are all in sync but those
// that are lost.
func hulled(t *testing.T, g api.Geo, b *bench.Bench, lost ...int) *hull.Hull {
	t.Helper()
	r := api.Roster{Geo: g}
	for _, m := range lost {
		r.States[m] = api.Lost
	}
	h, e := hull.New(b, id, 0, r)
	wantOK(t, "hull.New", e)
	return h
}

// whole is a hull of a geometry, and its bench.
func whole(t *testing.T, g api.Geo, lost ...int) (*hull.Hull, *bench.Bench) {
	t.Helper()
	b := laid(t, g)
	return hulled(t, g, b, lost...), b
}

// mute is a hull that says ErrFailed of all its places.
func mute(t *testing.T, g api.Geo) *hull.Hull {
	t.Helper()
	h, _ := whole(t, g, 0, 1)
	return h
}

// darken cuts the power of a bench, without anything written.
func darken(t *testing.T, b *bench.Bench) {
	t.Helper()
	wantOK(t, "bench.Arm", b.Arm(1))
	want(t, "bench.Flush", b.Flush(b.Devices()-1), api.ErrPower)
}

func made(t *testing.T, g api.Geo, room int) *shelf.Shelf {
	t.Helper()
	s, e := shelf.New(g, room)
	if s == nil || e != api.OK {
		t.Fatalf("New(%v, %d) = %v, %d", g, room, s, e)
	}
	return s
}

func want(t *testing.T, what string, got, want api.Errno) {
	t.Helper()
	if got != want {
		t.Fatalf("%s = %d, want %d", what, got, want)
	}
}

func wantOK(t *testing.T, what string, e api.Errno) {
	t.Helper()
	want(t, what, e, api.OK)
}

func wantRead(t *testing.T, s *shelf.Shelf, h *hull.Hull, p api.Place, x api.Block) {
	t.Helper()
	if got, e := s.Read(h, p); got != x || e != api.OK {
		t.Fatalf("Read(%v) = %x, %d, want %x", p, got, e, x)
	}
}

func wantNoRead(t *testing.T, what string, s *shelf.Shelf, h *hull.Hull, p api.Place, e api.Errno) {
	t.Helper()
	if got, is := s.Read(h, p); got != (api.Block{}) || is != e {
		t.Fatalf("%s: Read(%v) = %x, %d, want the error %d alone", what, p, got, is, e)
	}
}

func wantPut(t *testing.T, s *shelf.Shelf, seq uint64, e api.Errno, c ...api.Cell) {
	t.Helper()
	if is := s.Put(seq, c); is != e {
		t.Fatalf("Put(%d, %v) = %d, want %d", seq, places(c), is, e)
	}
}

func wantClean(t *testing.T, s *shelf.Shelf, stripe int, e api.Errno) {
	t.Helper()
	want(t, "Clean("+strconv.Itoa(stripe)+")", s.Clean(stripe), e)
}

func wantDrop(t *testing.T, s *shelf.Shelf, stripe int, e api.Errno) {
	t.Helper()
	want(t, "Drop("+strconv.Itoa(stripe)+")", s.Drop(stripe), e)
}

func wantFits(t *testing.T, s *shelf.Shelf, yes bool, stripes ...int) {
	t.Helper()
	if is := s.Fits(stripes); is != yes {
		t.Fatalf("Fits(%v) = %t, want %t", stripes, is, yes)
	}
}

func wantStripes(t *testing.T, s *shelf.Shelf, stripes ...int) {
	t.Helper()
	if is := s.Stripes(); !slices.Equal(is, stripes) {
		t.Fatalf("Stripes = %v, want %v", is, stripes)
	}
}

func wantDirty(t *testing.T, s *shelf.Shelf, first uint64, stripes ...int) {
	t.Helper()
	if is, from := s.Dirty(), s.First(); !slices.Equal(is, stripes) || from != first {
		t.Fatalf("Dirty, First = %v, %d, want %v, %d", is, from, stripes, first)
	}
}

func wantCells(t *testing.T, s *shelf.Shelf, stripe int, c ...api.Cell) {
	t.Helper()
	if is := s.Cells(stripe); !slices.Equal(is, c) {
		t.Fatalf("Cells(%d) = %v, want %v", stripe, is, c)
	}
}

// wantKnown says which members' cells of a stripe are known, of so many members.
func wantKnown(t *testing.T, s *shelf.Shelf, members, stripe int, known ...int) {
	t.Helper()
	is := s.Known(stripe)
	if len(is) != members {
		t.Fatalf("Known(%d) = %v, want %d members", stripe, is, members)
	}
	for m, yes := range is {
		if yes != slices.Contains(known, m) {
			t.Fatalf("Known(%d) = %v, want %v", stripe, is, known)
		}
	}
}

// wantNothing says that a shelf of a geometry has no lines.
func wantNothing(t *testing.T, s *shelf.Shelf, g api.Geo) {
	t.Helper()
	wantStripes(t, s)
	wantDirty(t, s, 0)
	for stripe := range g.Stripes {
		wantKnown(t, s, g.Members, stripe)
		wantCells(t, s, stripe)
	}
}

func places(c []api.Cell) (l []api.Place) {
	for _, x := range c {
		l = append(l, x.Place)
	}
	return l
}

// told is all that a shelf tells without being changed.
type told struct {
	stripes, dirty []int
	first          uint64
	known          [][]bool
	cells          [][]api.Cell
	fits           []bool
}

func tell(s *shelf.Shelf, g api.Geo) told {
	a := told{stripes: s.Stripes(), dirty: s.Dirty(), first: s.First()}
	var up []int
	for stripe := -1; stripe <= g.Stripes; stripe++ {
		a.known = append(a.known, s.Known(stripe))
		a.cells = append(a.cells, s.Cells(stripe))
		up = append(up, stripe)
		a.fits = append(a.fits, s.Fits(up), s.Fits(up[stripe+1:]))
	}
	return a
}

func (a told) like(b told) bool {
	return slices.Equal(a.stripes, b.stripes) && slices.Equal(a.dirty, b.dirty) && a.first == b.first &&
		slices.EqualFunc(a.known, b.known, slices.Equal) && slices.EqualFunc(a.cells, b.cells, slices.Equal) &&
		slices.Equal(a.fits, b.fits)
}

func wantTold(t *testing.T, what string, s *shelf.Shelf, g api.Geo, was told) {
	t.Helper()
	if is := tell(s, g); !is.like(was) {
		t.Fatalf("%s: it tells %v, want %v", what, is, was)
	}
}

// wantAllOfIt says what is read of each place that is known, behind all else: that
// touches stripes.
func wantAllOfIt(t *testing.T, s *shelf.Shelf, h *hull.Hull, g api.Geo, block func(api.Place) api.Block) {
	t.Helper()
	for stripe := range g.Stripes {
		for member, known := range s.Known(stripe) {
			if known {
				wantRead(t, s, h, at(stripe, member), block(at(stripe, member)))
			}
		}
	}
}

// The chapter's examples.

func TestExamples(t *testing.T) {
	s := made(t, small, 2)
	wantPut(t, s, 0, api.ErrArg, cell(at(0, 0), 1))
	wantPut(t, s, 1, api.OK, cell(at(0, 0), 1))
	wantPut(t, s, 2, api.OK, cell(at(1, 0), 2))
	wantFits(t, s, false, 2)
	wantPut(t, s, 3, api.ErrFull, cell(at(2, 0), 3))
	wantDirty(t, s, 1, 0, 1)
	wantClean(t, s, 0, api.OK)
	wantDirty(t, s, 2, 1)
	wantPut(t, s, 3, api.OK, cell(at(2, 0), 3))
	wantStripes(t, s, 2, 1)
	wantCells(t, s, 1, cell(at(1, 0), 2))
}

// P20.1: New.

func TestNewOfEachRoom(t *testing.T) {
	for _, g := range []api.Geo{geo(3, 1), small, wide} {
		for room := 1; room <= maxRoom; room++ {
			s := made(t, g, room)
			wantNothing(t, s, g)
			wantFits(t, s, true, upTo(0, room-1)...)
			wantFits(t, s, false, upTo(0, room)...)
		}
	}
}

func TestNewOfNoRoom(t *testing.T) {
	for _, room := range []int{math.MinInt, math.MinInt + 1, math.MinInt32, -1<<32 + 1, -65536 + 1, -256 + 1, -2, -1, 0,
		maxRoom + 1, maxRoom + 2, 2 * maxRoom, 256, 257, 65537, 1 << 31, 1 << 32, 1<<32 + 1, math.MaxInt - 1, math.MaxInt} {
		if s, e := shelf.New(small, room); s != nil || e != api.ErrArg {
			t.Errorf("New(.., %d) = %v, %d, want nil, ErrArg", room, s, e)
		}
	}
}

func TestNewOfGeometries(t *testing.T) {
	for _, members := range upTo(minMembers, maxMembers) {
		for _, stripes := range []int{1, 2, 63, maxStripes} {
			for _, ring := range []int{40, 41, 255, 256} {
				made(t, api.Geo{Members: members, Stripes: stripes, Ring: ring}, 1)
			}
		}
	}
	ends := []int{math.MinInt, math.MinInt + 3, -1 << 32, -1<<32 + 3, -40, -1, 0, 257, 1 << 31, 1 << 32, 1<<32 + 3, 1<<32 + 40, math.MaxInt - 1, math.MaxInt}
	for _, n := range ends {
		wantNoNew(t, api.Geo{Members: n, Stripes: 4, Ring: 40})
		wantNoNew(t, api.Geo{Members: 3, Stripes: n, Ring: 40})
		wantNoNew(t, api.Geo{Members: 3, Stripes: 4, Ring: n})
		wantNoNew(t, api.Geo{Members: n, Stripes: n, Ring: n})
	}
	for _, g := range []api.Geo{{}, geo(1, 4), geo(2, 4), geo(17, 4), geo(18, 4), geo(3, 65), geo(3, 66),
		{Members: 3, Stripes: 4, Ring: 1}, {Members: 3, Stripes: 4, Ring: 39}, {Members: 3, Stripes: 4, Ring: 257}} {
		wantNoNew(t, g)
	}
}

// wantNoNew says that there is no shelf of a geometry, with whatever room.
func wantNoNew(t *testing.T, g api.Geo) {
	t.Helper()
	for _, room := range []int{-1, 0, 1, 4, maxRoom, maxRoom + 1} {
		if s, e := shelf.New(g, room); s != nil || e != api.ErrArg {
			t.Errorf("New(%v, %d) = %v, %d, want nil, ErrArg", g, room, s, e)
		}
	}
}

// Two shelves of one geometry are each as if the other was not.
func TestNewSharesNothing(t *testing.T) {
	h, _ := whole(t, small)
	a, b := made(t, small, 2), made(t, small, 2)
	wantPut(t, a, 5, api.OK, cell(at(0, 1), 1))
	wantRead(t, a, h, at(1, 1), stood(at(1, 1)))
	wantNothing(t, b, small)
	wantPut(t, b, 7, api.OK, cell(at(0, 1), 2), cell(at(2, 1), 3))
	wantClean(t, b, 2, api.OK)
	wantDrop(t, b, 1, api.OK)
	wantStripes(t, a, 1, 0)
	wantDirty(t, a, 5, 0)
	wantRead(t, a, h, at(0, 1), some(1))
	wantRead(t, b, h, at(0, 1), some(2))
}

// More room than there are stripes: none ever goes.
func TestMoreRoomThanStripes(t *testing.T) {
	for _, room := range []int{4, 5, maxRoom} {
		h, _ := whole(t, small)
		s := made(t, small, room)
		for stripe := range 4 {
			wantRead(t, s, h, at(stripe, 1), stood(at(stripe, 1)))
		}
		wantStripes(t, s, 3, 2, 1, 0)
		for stripe := range 4 {
			wantPut(t, s, uint64(10-stripe), api.OK, cell(at(stripe, 0), stripe))
		}
		wantStripes(t, s, 3, 2, 1, 0)
		wantDirty(t, s, 7, 0, 1, 2, 3)
		wantFits(t, s, true, 0, 1, 2, 3)
	}
}

// A shelf that is none.

func TestNoShelf(t *testing.T) {
	good, _ := whole(t, small)
	for _, s := range []*shelf.Shelf{nil, {}} {
		for range 2 {
			for _, h := range []*hull.Hull{nil, {}, good} {
				for _, p := range append(noPlaces(), at(0, 0), at(1, 2)) {
					wantNoRead(t, "no shelf", s, h, p, api.ErrNil)
				}
			}
			for _, n := range append(far(), 0, 1, 2) {
				for _, seq := range []uint64{0, 1, math.MaxUint64} {
					wantPut(t, s, seq, api.ErrNil)
					wantPut(t, s, seq, api.ErrNil, cell(at(n, 0), 1), cell(at(0, n), 1))
				}
				wantClean(t, s, n, api.ErrNil)
				wantDrop(t, s, n, api.ErrNil)
				wantFits(t, s, false, n)
				wantKnown(t, s, 0, n)
				wantCells(t, s, n)
			}
			wantFits(t, s, false)
			wantDirty(t, s, 0)
			wantStripes(t, s)
		}
	}
}

// P20.1: Read.

// Where there is no hull, that comes ahead of all else: of what the line knows, and of
// places that are none.
func TestReadOfNoHull(t *testing.T) {
	h, _ := whole(t, small)
	s := made(t, small, 3)
	wantPut(t, s, 4, api.OK, cell(at(0, 0), 1))
	wantRead(t, s, h, at(1, 0), stood(at(1, 0)))
	was := tell(s, small)
	for _, none := range []*hull.Hull{nil, {}} {
		for _, p := range append(noPlaces(), at(0, 0), at(0, 1), at(1, 0), at(2, 2)) {
			wantNoRead(t, "no hull", s, none, p, api.ErrNil)
		}
		wantTold(t, "no hull", s, small, was)
	}
}

// Where there is no such place, nothing is touched, and nothing found dead, in whatever
// state the array is.
func TestReadOfNoPlace(t *testing.T) {
	for _, lost := range [][]int{nil, {1}, {0, 1}} {
		h, b := whole(t, small, lost...)
		s := made(t, small, 2)
		wantPut(t, s, 4, api.OK, cell(at(0, 0), 1), cell(at(3, 2), 2))
		was := tell(s, small)
		for _, dead := range []bool{false, true} {
			if dead {
				wantOK(t, "bench.Fail", b.Fail(2))
			}
			for _, p := range noPlaces() {
				wantNoRead(t, "no place", s, h, p, api.ErrArg)
			}
			wantTold(t, "no place", s, small, was)
			if h.Event() != 0 {
				t.Fatalf("no place: Event = %d", h.Event())
			}
		}
	}
}

// The last stripe and the last member are there, and one more is none.
func TestEdgesOfPlaces(t *testing.T) {
	for _, g := range []api.Geo{geo(3, 1), geo(4, 5), geo(16, 1), geo(3, 64), wide} {
		h, _ := whole(t, g)
		s := made(t, g, 1)
		for _, stripe := range []int{0, g.Stripes - 1} {
			for _, member := range []int{0, g.Members - 1} {
				wantRead(t, s, h, at(stripe, member), stood(at(stripe, member)))
				wantPut(t, s, 1, api.OK, cell(at(stripe, member), 1))
				wantDrop(t, s, stripe, api.OK)
			}
			for _, member := range []int{-1, g.Members} {
				wantNoRead(t, "no member", s, h, at(stripe, member), api.ErrArg)
				wantPut(t, s, 1, api.ErrArg, cell(at(stripe, member), 1))
			}
		}
		for _, stripe := range []int{-1, g.Stripes} {
			wantNoRead(t, "no stripe", s, h, at(stripe, 0), api.ErrArg)
			wantPut(t, s, 1, api.ErrArg, cell(at(stripe, 0), 1))
			wantClean(t, s, stripe, api.ErrArg)
			wantDrop(t, s, stripe, api.ErrArg)
			wantKnown(t, s, 0, stripe)
			wantCells(t, s, stripe)
		}
		wantNothing(t, s, g)
	}
}

// The place is one of the shelf's own geometry; one that its hull has not is learned
// as little as another error.
func TestReadOfAnotherHull(t *testing.T) {
	less, _ := whole(t, geo(3, 2))
	more, _ := whole(t, geo(5, 8))
	s := made(t, geo(4, 4), 2)
	wantNoRead(t, "a stripe that the hull has not", s, less, at(2, 0), api.ErrArg)
	wantNoRead(t, "a member that the hull has not", s, less, at(1, 3), api.ErrArg)
	wantNoRead(t, "a stripe that the shelf has not", s, more, at(4, 0), api.ErrArg)
	wantNoRead(t, "a member that the shelf has not", s, more, at(0, 4), api.ErrArg)
	wantNothing(t, s, geo(4, 4))
	wantRead(t, s, less, at(1, 2), stood(at(1, 2)))
	wantRead(t, s, more, at(3, 3), stood(at(3, 3)))
	wantStripes(t, s, 3, 1)
}

// What is not known is what fetch.Cell answers, of each place, whoever is lost, and
// that is learned: behind it the hull is not asked any more.
func TestReadLearns(t *testing.T) {
	for _, g := range []api.Geo{geo(3, 1), small, geo(4, 5), geo(16, 17)} {
		for lost := -1; lost < g.Members; lost++ {
			h, b := whole(t, g)
			if lost >= 0 {
				wantOK(t, "bench.Fail", b.Fail(lost))
			}
			s := made(t, g, maxRoom)
			block := func(p api.Place) api.Block {
				if p.Member == lost {
					return others(g, p)
				}
				return stood(p)
			}
			for stripe := range g.Stripes {
				for member := range g.Members {
					wantKnown(t, s, g.Members, stripe, upTo(0, member-1)...)
					wantRead(t, s, h, at(stripe, member), block(at(stripe, member)))
				}
			}
			wantDirty(t, s, 0)
			wantStripes(t, s, backwards(upTo(0, g.Stripes-1))...)
			for stripe := range g.Stripes {
				wantOK(t, "hull.Write", h.Write(at(stripe, (lost+1)%g.Members), some(stripe)))
			}
			wantAllOfIt(t, s, h, g, block)
			wantAllOfIt(t, s, mute(t, g), g, block)
		}
	}
}

// What the line knows is read whatever the hull would say, and nothing is found dead
// by it.
func TestReadOfWhatIsKnown(t *testing.T) {
	for _, how := range []string{"whole", "failed", "dead", "dark", "another's"} {
		h, b := whole(t, small)
		s := made(t, small, 2)
		wantRead(t, s, h, at(0, 1), stood(at(0, 1)))
		wantPut(t, s, 3, api.OK, cell(at(2, 1), 7))
		switch how {
		case "failed":
			h = mute(t, small)
		case "dead":
			for m := range 3 {
				wantOK(t, "bench.Fail", b.Fail(m))
			}
		case "dark":
			darken(t, b)
		case "another's":
			h, _ = whole(t, geo(3, 1))
		}
		for range 3 {
			wantRead(t, s, h, at(0, 1), stood(at(0, 1)))
			wantStripes(t, s, 0, 2)
			wantRead(t, s, h, at(2, 1), some(7))
			wantStripes(t, s, 2, 0)
		}
		if h.Event() != 0 {
			t.Fatalf("%s: Event = %d", how, h.Event())
		}
	}
}

// A stripe is touched wherever it stood, by what its line knows, and by what is learned.
func TestReadTouches(t *testing.T) {
	for _, learns := range []bool{false, true} {
		for stripe, behind := range [][]int{{0, 3, 2, 1}, {1, 3, 2, 0}, {2, 3, 1, 0}, {3, 2, 1, 0}} {
			h, _ := whole(t, small)
			s := made(t, small, 4)
			for n := range 4 {
				wantRead(t, s, h, at(n, 1), stood(at(n, 1)))
			}
			p := at(stripe, 1)
			if learns {
				p.Member = 2
			}
			for range 2 {
				wantRead(t, s, h, p, stood(p))
				wantStripes(t, s, behind...)
			}
		}
	}
}

// A line is made while there is room; where there is none, the last one goes, and is
// forgotten.
func TestReadMakesLines(t *testing.T) {
	g := geo(4, 64)
	for _, room := range []int{1, 2, 3, 63, 64} {
		h, _ := whole(t, g)
		s := made(t, g, room)
		for stripe := range 64 {
			wantRead(t, s, h, at(stripe, 3), stood(at(stripe, 3)))
			from := max(0, stripe-room+1)
			wantStripes(t, s, backwards(upTo(from, stripe))...)
			for n := range 64 {
				if n >= from && n <= stripe {
					wantKnown(t, s, 4, n, 3)
				} else {
					wantKnown(t, s, 4, n)
				}
			}
		}
		wantDirty(t, s, 0)
	}
}

// What went is asked of the hull anew, and all of its line is forgotten.
func TestReadOfWhatWent(t *testing.T) {
	h, b := whole(t, small)
	s := made(t, small, 2)
	for member := range 3 {
		wantRead(t, s, h, at(0, member), stood(at(0, member)))
	}
	wantRead(t, s, h, at(1, 0), stood(at(1, 0)))
	wantRead(t, s, h, at(2, 0), stood(at(2, 0)))
	wantKnown(t, s, 3, 0)
	wantOK(t, "hull.Write", h.Write(at(0, 1), some(9)))
	wantRead(t, s, h, at(0, 1), some(9))
	wantKnown(t, s, 3, 0, 1)
	wantStripes(t, s, 0, 2)
	wantOK(t, "bench.Fail", b.Fail(1))
	wantRead(t, s, h, at(1, 1), others(small, at(1, 1)))
	wantStripes(t, s, 1, 0)
}

// A line that is dirty does not go for another one, whichever are.
func TestReadLetsNoDirtyOneGo(t *testing.T) {
	g := geo(3, 6)
	for pinned := range 1 << 5 {
		h, _ := whole(t, g)
		s := made(t, g, 5)
		goes := -1
		for stripe := 4; stripe >= 0; stripe-- {
			if pinned>>stripe&1 == 1 {
				wantPut(t, s, uint64(stripe+1), api.OK, cell(at(stripe, 0), stripe))
			} else {
				wantRead(t, s, h, at(stripe, 0), stood(at(stripe, 0)))
				goes = max(goes, stripe)
			}
		}
		wantStripes(t, s, 0, 1, 2, 3, 4)
		was := tell(s, g)
		wantRead(t, s, h, at(5, 2), stood(at(5, 2)))
		if goes < 0 {
			wantTold(t, "all are dirty", s, g, was)
			continue
		}
		wantStripes(t, s, slices.Insert(slices.DeleteFunc(upTo(0, 4), func(n int) bool { return n == goes }), 0, 5)...)
		if is := s.Dirty(); !slices.Equal(is, was.dirty) {
			t.Fatalf("Dirty = %v, want %v", is, was.dirty)
		}
	}
}

// Where all lines are pinned, what is read is not kept: the next Read asks the hull
// anew. What has a line learns all the same.
func TestReadWhereAllArePinned(t *testing.T) {
	for _, room := range []int{1, 2, 3} {
		h, _ := whole(t, small)
		s := made(t, small, room)
		for stripe := range room {
			wantPut(t, s, uint64(9-stripe), api.OK, cell(at(stripe, 1), stripe))
		}
		was := tell(s, small)
		for n := range 3 {
			if n > 0 {
				wantOK(t, "hull.Write", h.Write(at(3, 1), some(50+n)))
				wantRead(t, s, h, at(3, 1), some(50+n))
			}
			wantRead(t, s, h, at(3, 0), stood(at(3, 0)))
			wantTold(t, "all are pinned", s, small, was)
		}
		wantRead(t, s, h, at(0, 2), stood(at(0, 2)))
		wantKnown(t, s, 3, 0, 1, 2)
		wantStripes(t, s, append([]int{0}, backwards(upTo(1, room-1))...)...)
		wantCells(t, s, 0, cell(at(0, 1), 0))
		wantRead(t, s, mute(t, small), at(0, 2), stood(at(0, 2)))
	}
}

// Behind an error of fetch.Cell the shelf is as it was: none is made, none goes, none
// is touched, nothing is learned.
func TestReadOfErrors(t *testing.T) {
	for _, room := range []int{1, 2, 3, 4} {
		for _, e := range []api.Errno{api.ErrFailed, api.ErrPower, api.ErrArg} {
			h, b := whole(t, small)
			s := made(t, small, room)
			for n := range min(room, 3) {
				wantRead(t, s, h, at(n, 0), stood(at(n, 0)))
			}
			wantPut(t, s, 6, api.OK, cell(at(0, 1), 1))
			for _, found := range []bool{false, true} {
				switch {
				case e == api.ErrPower:
					if !found {
						darken(t, b)
					}
				case e == api.ErrArg:
					h, _ = whole(t, geo(3, 1))
				case found:
					h = mute(t, small)
				default: // Two members are found dead by the Read itself.
					wantOK(t, "bench.Fail", b.Fail(1))
					wantOK(t, "bench.Fail", b.Fail(2))
				}
				was := tell(s, small)
				for _, p := range []api.Place{at(3, 1), at(2, 2), at(1, 1)} {
					wantNoRead(t, "an error", s, h, p, e)
					wantTold(t, "an error", s, small, was)
				}
			}
		}
	}
	// A cut in the midst of what a Read finds: nothing is learned, and behind it all is.
	for cut := 1; cut <= 4; cut++ {
		h, b := whole(t, small)
		s := made(t, small, 1)
		wantRead(t, s, h, at(2, 1), stood(at(2, 1)))
		wantOK(t, "bench.Fail", b.Fail(1))
		wantOK(t, "bench.Arm", b.Arm(cut))
		wantNoRead(t, "a cut", s, h, at(0, 1), api.ErrPower)
		wantStripes(t, s, 2)
		wantOK(t, "bench.Crash", b.Crash(nil))
		wantRead(t, s, h, at(0, 1), others(small, at(0, 1)))
		wantStripes(t, s, 0)
	}
}

// A place that was forgotten is asked of the hull, and learned anew.
func TestReadOfWhatWasForgotten(t *testing.T) {
	for _, g := range []api.Geo{small, geo(5, 7), geo(16, 17)} {
		h, _ := whole(t, g)
		s := made(t, g, g.Stripes)
		for stripe := range g.Stripes {
			p, d := parity(g, stripe), first(g, stripe)
			wantPut(t, s, 3, api.OK, cell(p, 1), cell(d, 2))
			wantRead(t, s, h, p, some(1))
			wantPut(t, s, 4, api.OK, cell(d, 3))
			wantKnown(t, s, g.Members, stripe, d.Member)
			wantCells(t, s, stripe, cell(d, 3))
			wantNoRead(t, "forgotten", s, mute(t, g), p, api.ErrFailed)
			wantRead(t, s, h, p, stood(p))
			wantRead(t, s, mute(t, g), p, stood(p))
			wantCells(t, s, stripe, cell(d, 3))
		}
	}
}

// P20.2: Fits.

func TestFits(t *testing.T) {
	h, _ := whole(t, small)
	for room := 1; room <= 4; room++ {
		for dirty := range 1 << 4 {
			s := made(t, small, room)
			var is []int
			for stripe := range 4 {
				if dirty>>stripe&1 == 1 {
					is = append(is, stripe)
				}
			}
			if len(is) > room {
				continue
			}
			for i, stripe := range is {
				wantPut(t, s, uint64(1+i), api.OK, cell(at(stripe, i%3), i))
			}
			wantFits(t, s, true)
			wantFits(t, s, true, is...)
			for stripe := range 4 { // Lines that are not dirty are no hindrance.
				s.Read(h, at(stripe, 2))
			}
			was := tell(s, small)
			for asked := range 1 << 4 {
				var l []int
				many := len(is)
				for stripe := range 4 {
					if asked>>stripe&1 == 1 {
						l = append(l, stripe)
						if dirty>>stripe&1 == 0 {
							many++
						}
					}
				}
				wantFits(t, s, many <= room, l...)
				wantFits(t, s, many <= room, backwards(l)...)
				wantFits(t, s, many <= room, append(slices.Clone(l), l...)...)
				wantFits(t, s, many <= room, slices.Concat(l, is, backwards(l), is)...)
			}
			wantTold(t, "Fits", s, small, was)
		}
	}
}

// As many as there is room for, and one more; twice, too.
func TestFitsOfEachRoom(t *testing.T) {
	g := geo(3, 64)
	for _, room := range []int{1, 2, 3, 19, 20, 21, 63, 64} {
		for dirty := 0; dirty <= room; dirty++ {
			s := made(t, g, room)
			for stripe := range dirty {
				wantPut(t, s, 1, api.OK, cell(at(stripe, 0), 0))
			}
			fits := upTo(dirty, room-1)
			wantFits(t, s, true, fits...)
			wantFits(t, s, true, slices.Concat(fits, fits, upTo(0, dirty-1), fits)...)
			if room < 64 {
				wantFits(t, s, false, append(fits, room)...)
				wantFits(t, s, false, append([]int{room}, fits...)...)
			}
			wantFits(t, s, true)
			wantFits(t, s, dirty < room || dirty == 64, 63, 63, 63)
		}
	}
}

// Stripes that there are not count as others do: they are unlike ones among these.
func TestFitsOfNoStripes(t *testing.T) {
	for room := 1; room <= 5; room++ {
		for dirty := 0; dirty <= min(room, 4); dirty++ {
			s := made(t, small, room)
			for stripe := range dirty {
				wantPut(t, s, 1, api.OK, cell(at(stripe, 0), 0))
			}
			left := room - dirty
			all := far()
			for many := 0; many <= len(all); many++ {
				wantFits(t, s, many <= left, all[:many]...)
				wantFits(t, s, many <= left, all[len(all)-many:]...)
			}
			for _, n := range all {
				wantFits(t, s, left > 0, n, n, n)
			}
		}
	}
}

// A list that is handed in stays, also where it is long.
func TestFitsOfLongLists(t *testing.T) {
	s := made(t, small, 2)
	l := make([]int, 100_000)
	for i := range l {
		l[i] = i % 2
	}
	was := slices.Clone(l)
	wantFits(t, s, true, l...)
	if !slices.Equal(l, was) {
		t.Fatal("Fits changed its list")
	}
	wantFits(t, s, false, append(l, 2)...)
}

// P20.2: Put.

func TestPutOfEachNumber(t *testing.T) {
	for _, seq := range []uint64{1, 2, 3, 255, 256, 1 << 31, 1 << 32, 1<<53 + 1, 1 << 61, 1<<63 - 1, 1 << 63, math.MaxUint64 - 1, math.MaxUint64} {
		s := made(t, small, 2)
		wantPut(t, s, 0, api.ErrArg)
		wantPut(t, s, 0, api.ErrArg, cell(at(0, 0), 1))
		wantNothing(t, s, small)
		wantPut(t, s, seq, api.OK, cell(at(0, 0), 1))
		wantDirty(t, s, seq, 0)
		was := tell(s, small)
		wantPut(t, s, 0, api.ErrArg, cell(at(0, 0), 2))
		wantTold(t, "the number 0", s, small, was)
		wantRead(t, s, mute(t, small), at(0, 0), some(1))
	}
}

// A cell at no place, first, last and in the middle, alone and beside a list that is
// too long, too: nothing is changed.
func TestPutOfNoPlace(t *testing.T) {
	h, _ := whole(t, small)
	s := made(t, small, 2)
	wantPut(t, s, 5, api.OK, cell(at(0, 0), 1))
	wantRead(t, s, h, at(1, 1), stood(at(1, 1)))
	was := tell(s, small)
	for _, p := range noPlaces() {
		bad := cell(p, 9)
		for _, good := range [][]api.Cell{
			nil,
			{cell(at(0, 0), 2)},
			{cell(at(1, 1), 2), cell(at(1, 2), 3)},
			{cell(at(3, 0), 2), cell(at(0, 1), 3)},
			{cell(at(1, 0), 2), cell(at(2, 1), 3), cell(at(3, 1), 4)}, // these do not fit, either
		} {
			for i := range len(good) + 1 {
				wantPut(t, s, 3, api.ErrArg, slices.Insert(slices.Clone(good), i, bad)...)
				wantPut(t, s, 0, api.ErrArg, slices.Insert(slices.Clone(good), i, bad)...)
			}
		}
		wantTold(t, "no place", s, small, was)
	}
	wantAllOfIt(t, s, mute(t, small), small, func(p api.Place) api.Block {
		if p == at(0, 0) {
			return some(1)
		}
		return stood(p)
	})
}

func TestPutOfNoCells(t *testing.T) {
	s := made(t, small, 1)
	wantPut(t, s, 1, api.OK)
	wantNothing(t, s, small)
	wantPut(t, s, 2, api.OK, cell(at(0, 2), 1))
	was := tell(s, small)
	want(t, "Put(1, nil)", s.Put(1, nil), api.OK)
	want(t, "Put(1, none)", s.Put(1, []api.Cell{}), api.OK)
	wantTold(t, "no cells", s, small, was)
}

// Each place of each geometry: it is set, and alone; what is read of it is that.
func TestPutOfEachPlace(t *testing.T) {
	for _, g := range []api.Geo{geo(3, 1), small, geo(4, 9), wide} {
		s := made(t, g, 1)
		no := mute(t, g)
		for stripe := range g.Stripes {
			for member := range g.Members {
				p := at(stripe, member)
				wantPut(t, s, 7, api.OK, cell(p, 100*stripe+member))
				wantStripes(t, s, stripe)
				wantDirty(t, s, 7, stripe)
				wantCells(t, s, stripe, cell(p, 100*stripe+member))
				wantKnown(t, s, g.Members, stripe, member)
				wantRead(t, s, no, p, some(100*stripe+member))
				wantDrop(t, s, stripe, api.OK)
			}
		}
	}
}

// Cells of one stripe, in whatever order.
func TestPutOfOneStripe(t *testing.T) {
	for _, g := range []api.Geo{small, wide} {
		for stripe := range min(g.Stripes, g.Members) {
			all := upTo(0, g.Members-1)
			var odd []int
			for n := range all {
				odd = append(odd, (n*5+3)%g.Members)
			}
			for _, order := range [][]int{all, backwards(all), odd} {
				s := made(t, g, 2)
				var c, rising []api.Cell
				for _, m := range order {
					c = append(c, cell(at(stripe, m), m))
				}
				for m := range g.Members {
					if slices.Contains(order, m) {
						rising = append(rising, cell(at(stripe, m), m))
					}
				}
				wantPut(t, s, 2, api.OK, c...)
				wantCells(t, s, stripe, rising...)
				wantStripes(t, s, stripe)
				wantAllOfIt(t, s, mute(t, g), g, func(p api.Place) api.Block { return some(p.Member) })
			}
		}
	}
}

// Of two cells at one place the last one holds, whatever stands between them.
func TestPutOfOnePlaceTwice(t *testing.T) {
	for _, p := range []api.Place{parity(small, 1), first(small, 1), at(1, 2)} {
		other := at(1, (p.Member+1)%3)
		for _, c := range [][]api.Cell{
			{cell(p, 1), cell(p, 2)},
			{cell(p, 1), cell(other, 5), cell(p, 2)},
			{cell(p, 1), cell(at(0, 0), 5), cell(p, 3), cell(at(2, 0), 6), cell(p, 2), cell(other, 7)},
			{cell(p, 3), cell(p, 1), cell(p, 1), cell(p, 2)},
			{cell(p, 2), cell(p, 1), cell(p, 2)},
		} {
			s := made(t, small, 3)
			wantPut(t, s, 1, api.OK, c...)
			wantRead(t, s, mute(t, small), p, some(2))
			for _, x := range s.Cells(1) {
				if x.Place == p && x.B != some(2) {
					t.Fatalf("Cells = %v", x)
				}
			}
		}
	}
}

// What does not fit is refused as a whole: alone, and beside those that are dirty.
func TestPutOfTooMany(t *testing.T) {
	g := geo(3, 64)
	for _, room := range []int{1, 2, 3, 20, 63} {
		for _, dirty := range []int{0, 1, room - 1, room} {
			h, _ := whole(t, g)
			s := made(t, g, room)
			var had, fits []api.Cell
			for stripe := range room {
				wantRead(t, s, h, at(stripe, 2), stood(at(stripe, 2)))
				if stripe < dirty {
					had = append(had, cell(at(stripe, 0), stripe))
				} else {
					fits = append(fits, cell(at(stripe, 1), stripe))
				}
			}
			wantPut(t, s, 8, api.OK, had...)
			was := tell(s, g)
			last := cell(at(63, 1), 63)
			for i := range len(fits) + 1 {
				wantPut(t, s, 3, api.ErrFull, slices.Insert(slices.Clone(fits), i, last)...)
				wantPut(t, s, 3, api.ErrFull, slices.Concat(had, fits[:i], []api.Cell{last}, fits[i:])...)
			}
			wantTold(t, "too many", s, g, was)
			wantPut(t, s, 3, api.OK, fits...)
			wantPut(t, s, 3, api.OK, slices.Concat(fits, had, fits)...)
			if is := s.Dirty(); !slices.Equal(is, upTo(0, room-1)) {
				t.Fatalf("Dirty = %v", is)
			}
			wantPut(t, s, 3, api.ErrFull, last)
		}
	}
}

// Where there is no room the last one that is not dirty goes, for the cell that comes
// first; one that comes later in the list, but is not dirty yet, may go for it, too,
// and comes back without what it knew.
func TestPutLetsOthersGo(t *testing.T) {
	read := func(t *testing.T, s *shelf.Shelf, h *hull.Hull, stripes ...int) {
		for _, n := range stripes {
			wantRead(t, s, h, at(n, 2), stood(at(n, 2)))
		}
	}
	h, _ := whole(t, small)
	s := made(t, small, 3)
	read(t, s, h, 0, 1, 2)
	wantPut(t, s, 1, api.OK, cell(at(3, 0), 1))
	wantStripes(t, s, 3, 2, 1)
	wantKnown(t, s, 3, 0)

	s = made(t, small, 2)
	read(t, s, h, 0, 1)
	wantPut(t, s, 1, api.OK, cell(at(2, 0), 1), cell(at(3, 0), 2))
	wantStripes(t, s, 3, 2)
	wantKnown(t, s, 3, 0)
	wantKnown(t, s, 3, 1)

	s = made(t, small, 2)
	read(t, s, h, 0, 1)
	wantPut(t, s, 1, api.OK, cell(at(2, 0), 1), cell(at(0, 0), 2))
	wantStripes(t, s, 0, 2)
	wantKnown(t, s, 3, 0, 0)
	wantKnown(t, s, 3, 1)

	s = made(t, small, 2)
	read(t, s, h, 0, 1)
	wantPut(t, s, 1, api.OK, cell(at(1, 0), 1), cell(at(2, 0), 2), cell(at(1, 1), 3))
	wantStripes(t, s, 1, 2)
	wantKnown(t, s, 3, 1, 0, 1, 2)
	wantKnown(t, s, 3, 0)

	// Dirty ones stay, wherever they stand.
	s = made(t, small, 3)
	wantPut(t, s, 1, api.OK, cell(at(0, 0), 1))
	read(t, s, h, 1, 2)
	wantPut(t, s, 2, api.OK, cell(at(3, 0), 2))
	wantStripes(t, s, 3, 2, 0)
	wantPut(t, s, 3, api.OK, cell(at(1, 0), 3))
	wantStripes(t, s, 1, 3, 0)
	wantDirty(t, s, 1, 0, 1, 3)
}

// Of each stripe of whose parity's place there was no cell, that place is forgotten:
// whether it was learned, put, or home; of one of which there was, it is kept; of one
// of which no cell was, all stays.
func TestPutForgetsParities(t *testing.T) {
	for _, g := range []api.Geo{small, geo(4, 5), geo(16, 17)} {
		for stripe := range g.Stripes {
			for _, way := range []string{"learned", "put", "home"} {
				h, _ := whole(t, g)
				s := made(t, g, 3)
				p, d, x := parity(g, stripe), first(g, stripe), (stripe+1)%g.Stripes
				for _, n := range []api.Place{p, d, parity(g, x)} {
					if way == "learned" {
						wantRead(t, s, h, n, stood(n))
					} else {
						wantPut(t, s, 5, api.OK, api.Cell{Place: n, B: stood(n)})
					}
					if way == "home" {
						wantClean(t, s, n.Stripe, api.OK)
					}
				}
				wantRead(t, s, h, p, stood(p)) // the data was put behind it
				wantPut(t, s, 6, api.OK, cell(p, 1), cell(d, 2))
				wantRead(t, s, mute(t, g), p, some(1))
				wantPut(t, s, 7, api.OK, cell(p, 3))
				wantRead(t, s, mute(t, g), p, some(3))
				wantPut(t, s, 8, api.OK, cell(d, 4), cell(p, 5))
				wantRead(t, s, mute(t, g), p, some(5))
				wantPut(t, s, 9, api.OK, cell(parity(g, x), 7), cell(d, 6))
				wantNoRead(t, "forgotten", s, mute(t, g), p, api.ErrFailed)
				wantRead(t, s, mute(t, g), parity(g, x), some(7))
				wantKnown(t, s, g.Members, stripe, d.Member)
				wantCells(t, s, stripe, cell(d, 6))
				wantPut(t, s, 9, api.OK, cell(first(g, x), 8))
				wantNoRead(t, "forgotten", s, mute(t, g), parity(g, x), api.ErrFailed)
				wantKnown(t, s, g.Members, stripe, d.Member)
			}
		}
	}
}

// Several stripes at once: of some there is a cell of the parity, of others there is
// not, wherever in the list.
func TestPutForgetsSomeParities(t *testing.T) {
	for with := range 1 << 4 {
		for _, ahead := range []bool{false, true} {
			h, _ := whole(t, small)
			s := made(t, small, 4)
			var data, sums []api.Cell
			for stripe := range 4 {
				wantRead(t, s, h, parity(small, stripe), stood(parity(small, stripe)))
				data = append(data, cell(first(small, stripe), stripe))
				if with>>stripe&1 == 1 {
					sums = append(sums, cell(parity(small, stripe), 10+stripe))
				}
			}
			if ahead {
				wantPut(t, s, 4, api.OK, append(sums, data...)...)
			} else {
				wantPut(t, s, 4, api.OK, append(data, sums...)...)
			}
			for stripe := range 4 {
				if with>>stripe&1 == 1 {
					wantKnown(t, s, 3, stripe, first(small, stripe).Member, parity(small, stripe).Member)
					wantRead(t, s, mute(t, small), parity(small, stripe), some(10+stripe))
				} else {
					wantKnown(t, s, 3, stripe, first(small, stripe).Member)
				}
			}
		}
	}
}

// Stripes are touched cell by cell.
func TestPutTouches(t *testing.T) {
	for _, c := range []struct{ put, behind []int }{
		{[]int{0}, []int{0, 3, 2, 1}},
		{[]int{0, 1}, []int{1, 0, 3, 2}},
		{[]int{1, 0}, []int{0, 1, 3, 2}},
		{[]int{1, 0, 1}, []int{1, 0, 3, 2}},
		{[]int{3, 3, 2, 2, 3, 0, 0}, []int{0, 3, 2, 1}},
		{[]int{0, 1, 2, 3}, []int{3, 2, 1, 0}},
		{[]int{3, 2, 1, 0}, []int{0, 1, 2, 3}},
		{nil, []int{3, 2, 1, 0}},
	} {
		h, _ := whole(t, small)
		s := made(t, small, 4)
		for stripe := range 4 {
			wantRead(t, s, h, at(stripe, 0), stood(at(stripe, 0)))
		}
		var l []api.Cell
		for i, stripe := range c.put {
			l = append(l, cell(at(stripe, i%3), i))
		}
		wantPut(t, s, 3, api.OK, l...)
		wantStripes(t, s, c.behind...)
	}
}

// The cells that were handed in stay, the room behind their end too, and a change of
// theirs behind the call is not seen.
func TestPutSharesNothing(t *testing.T) {
	s := made(t, small, 2)
	room := make([]api.Cell, 8)
	for i := range room {
		room[i] = cell(at(1-i%2, i%3), i)
	}
	was := slices.Clone(room)
	wantPut(t, s, 3, api.OK, room[:5]...)
	want(t, "Put", s.Put(3, room[:5]), api.OK)
	want(t, "Put", s.Put(0, room[:5]), api.ErrArg)
	if !slices.Equal(room, was) {
		t.Fatalf("Put changed its cells: %v", places(room))
	}
	told := tell(s, small)
	for i := range room {
		room[i] = cell(at(3, 2), 99)
	}
	wantTold(t, "the cells were changed", s, small, told)
	wantRead(t, s, mute(t, small), at(1, 1), was[4].B)
}

// P20.3.

// lineOf lets a stripe's line know, and be dirty, as a name says.
func lineOf(t *testing.T, name string, s *shelf.Shelf, h *hull.Hull, stripe int) {
	t.Helper()
	own := func(member int) api.Cell { return cell(at(stripe, member), 20+member) }
	switch name {
	case "learned":
		wantRead(t, s, h, at(stripe, 2), stood(at(stripe, 2)))
		wantRead(t, s, h, at(stripe, 0), stood(at(stripe, 0)))
	case "both":
		wantPut(t, s, 6, api.OK, own(2))
		wantRead(t, s, h, at(stripe, 0), stood(at(stripe, 0)))
	case "dirty":
		wantPut(t, s, 6, api.OK, own(2), own(0))
	case "all":
		wantPut(t, s, 6, api.OK, own(2), own(1), own(0))
	}
}

// Each thing that a stripe's line may be, asked, clean and dropped, beside another one.
func TestOfEachLine(t *testing.T) {
	no := mute(t, small)
	for name, is := range map[string]struct{ known, dirty []int }{
		"none": {}, "learned": {known: []int{0, 2}}, "both": {[]int{0, 2}, []int{2}},
		"dirty": {[]int{0, 2}, []int{0, 2}}, "all": {[]int{0, 1, 2}, []int{0, 1, 2}},
	} {
		for stripe := range 4 {
			for _, act := range []string{"ask", "clean", "drop", "clean and drop"} {
				s := made(t, small, 3)
				lineOf(t, name, s, healthy(t, small), stripe)
				other := (stripe + 1) % 4
				wantPut(t, s, 9, api.OK, cell(at(other, 1), 5))
				known, dirty := is.known, is.dirty
				if act == "clean" || act == "clean and drop" {
					wantClean(t, s, stripe, api.OK)
					dirty = nil
				}
				if act == "drop" || act == "clean and drop" {
					wantDrop(t, s, stripe, api.OK)
					known, dirty = nil, nil
				}
				wantLine(t, s, stripe, known, dirty)
				wantLine(t, s, other, []int{1}, []int{1})
				for m := range 3 {
					p := at(stripe, m)
					switch {
					case !slices.Contains(known, m):
						wantNoRead(t, "not known", s, no, p, api.ErrFailed)
					case slices.Contains(is.dirty, m):
						wantRead(t, s, no, p, some(20+m))
					default:
						wantRead(t, s, no, p, stood(p))
					}
				}
			}
		}
	}
}

// wantLine says which cells of a stripe are known, and which are dirty: what was put by
// lineOf, or another one of the seed 5.
func wantLine(t *testing.T, s *shelf.Shelf, stripe int, known, dirty []int) {
	t.Helper()
	wantKnown(t, s, 3, stripe, known...)
	is := s.Cells(stripe)
	if len(is) != len(dirty) || slices.Contains(s.Dirty(), stripe) != (len(dirty) > 0) {
		t.Fatalf("Cells(%d), Dirty = %v, %v, want the members %v", stripe, is, s.Dirty(), dirty)
	}
	for i, m := range dirty {
		if p := at(stripe, m); is[i] != cell(p, 20+m) && is[i] != cell(p, 5) {
			t.Fatalf("Cells(%d) = %v, want the members %v", stripe, is, dirty)
		}
	}
	if has := slices.Contains(s.Stripes(), stripe); has != (len(known) > 0) {
		t.Fatalf("Stripes = %v", s.Stripes())
	}
}

// Where there is no such stripe: nothing is told, and nothing changed.
func TestNoStripe(t *testing.T) {
	h, _ := whole(t, small)
	s := made(t, small, 4)
	wantRead(t, s, h, at(0, 0), stood(at(0, 0)))
	wantPut(t, s, 2, api.OK, cell(at(3, 1), 1))
	was := tell(s, small)
	for _, n := range far() {
		wantKnown(t, s, 0, n)
		wantCells(t, s, n)
		wantClean(t, s, n, api.ErrArg)
		wantDrop(t, s, n, api.ErrArg)
	}
	wantTold(t, "no stripe", s, small, was)
}

// Behind Clean what is known is read as it was, a stripe is not pinned, and stands
// where it stood; it may go, and may be dirty anew.
func TestClean(t *testing.T) {
	no := mute(t, small)
	h, _ := whole(t, small)
	s := made(t, small, 2)
	wantPut(t, s, 3, api.OK, cell(at(0, 0), 1), cell(at(1, 0), 2))
	wantFits(t, s, false, 2)
	wantClean(t, s, 0, api.OK)
	wantStripes(t, s, 1, 0)
	wantDirty(t, s, 3, 1)
	wantFits(t, s, true, 2)
	wantFits(t, s, false, 2, 3)
	wantRead(t, s, no, at(0, 0), some(1))
	wantStripes(t, s, 0, 1)
	for range 2 {
		wantClean(t, s, 0, api.OK)
		wantClean(t, s, 2, api.OK)
		wantStripes(t, s, 0, 1)
	}
	wantPut(t, s, 9, api.OK, cell(at(0, 1), 3))
	wantCells(t, s, 0, cell(at(0, 1), 3))
	wantKnown(t, s, 3, 0, 0, 1)
	wantDirty(t, s, 3, 0, 1)
	wantClean(t, s, 1, api.OK)
	wantDirty(t, s, 9, 0)
	wantRead(t, s, h, at(2, 2), stood(at(2, 2)))
	wantStripes(t, s, 2, 0)
	wantKnown(t, s, 3, 1)
	wantClean(t, s, 0, api.OK)
	wantDirty(t, s, 0)
	wantRead(t, s, h, at(3, 2), stood(at(3, 2)))
	wantStripes(t, s, 3, 2)
}

// Drop takes a dirty one, too: it is not pinned any more, and nothing of it is known.
func TestDrop(t *testing.T) {
	h, _ := whole(t, small)
	s := made(t, small, 2)
	wantPut(t, s, 3, api.OK, cell(at(0, 0), 1), cell(at(1, 0), 2))
	wantDrop(t, s, 0, api.OK)
	wantStripes(t, s, 1)
	wantFits(t, s, true, 2)
	wantRead(t, s, h, at(0, 0), stood(at(0, 0)))
	wantStripes(t, s, 0, 1)
	wantDirty(t, s, 3, 1)
	wantRead(t, s, h, at(2, 0), stood(at(2, 0)))
	wantStripes(t, s, 2, 1)
	for range 2 {
		wantDrop(t, s, 1, api.OK)
		wantDrop(t, s, 3, api.OK)
		wantStripes(t, s, 2)
		wantDirty(t, s, 0)
	}
	wantPut(t, s, 8, api.OK, cell(at(1, 1), 4))
	wantDirty(t, s, 8, 1)
	wantKnown(t, s, 3, 1, 1)
	wantDrop(t, s, 1, api.OK)
	wantDrop(t, s, 2, api.OK)
	wantNothing(t, s, small)
}

// Drop of a line in the midst leaves the order of the others.
func TestDropOfEachPlace(t *testing.T) {
	for stripe := range 4 {
		for _, dirty := range []bool{false, true} {
			h, _ := whole(t, small)
			s := made(t, small, 4)
			for n := range 4 {
				if dirty {
					wantPut(t, s, uint64(4-n), api.OK, cell(at(n, 0), n))
				} else {
					wantRead(t, s, h, at(n, 0), stood(at(n, 0)))
				}
			}
			wantDrop(t, s, stripe, api.OK)
			left := slices.DeleteFunc(upTo(0, 3), func(n int) bool { return n == stripe })
			wantStripes(t, s, backwards(left)...)
			if dirty {
				wantDirty(t, s, uint64(4-left[2]), left...)
			}
		}
	}
}

// Dirty is rising, in whatever order stripes were put.
func TestDirtyIsRising(t *testing.T) {
	g := geo(3, 64)
	for step := 1; step < 64; step += 2 {
		s := made(t, g, 64)
		for n := range 64 {
			wantPut(t, s, 5, api.OK, cell(at(n*step%64, 1), n))
		}
		wantDirty(t, s, 5, upTo(0, 63)...)
		for n := range 32 {
			wantClean(t, s, 2*(n*step%32), api.OK)
		}
		var odd []int
		for n := range 32 {
			odd = append(odd, 2*n+1)
		}
		wantDirty(t, s, 5, odd...)
	}
}

// First is the least first of all that are dirty, which each has since it was clean.
func TestFirst(t *testing.T) {
	s := made(t, small, 4)
	wantPut(t, s, 50, api.OK, cell(at(2, 0), 1))
	wantDirty(t, s, 50, 2)
	wantPut(t, s, 70, api.OK, cell(at(0, 0), 1), cell(at(2, 1), 1))
	wantDirty(t, s, 50, 0, 2)
	wantPut(t, s, 30, api.OK, cell(at(1, 0), 1))
	wantDirty(t, s, 30, 0, 1, 2)
	wantPut(t, s, 20, api.OK, cell(at(0, 0), 1))
	wantDirty(t, s, 20, 0, 1, 2)
	wantPut(t, s, 90, api.OK, cell(at(1, 0), 1))
	wantClean(t, s, 0, api.OK)
	wantDirty(t, s, 30, 1, 2)
	wantDrop(t, s, 1, api.OK)
	wantDirty(t, s, 50, 2)
	wantPut(t, s, 60, api.OK, cell(at(0, 0), 1))
	wantClean(t, s, 2, api.OK)
	wantDirty(t, s, 60, 0)
	wantPut(t, s, math.MaxUint64, api.OK, cell(at(3, 0), 1))
	wantPut(t, s, 1<<63, api.OK, cell(at(2, 0), 1))
	wantDirty(t, s, 60, 0, 2, 3)
	wantClean(t, s, 0, api.OK)
	wantDirty(t, s, 1<<63, 2, 3)
	wantClean(t, s, 2, api.OK)
	wantDirty(t, s, math.MaxUint64, 3)
	wantClean(t, s, 3, api.OK)
	wantDirty(t, s, 0)
	// What was forgotten changes no first.
	wantPut(t, s, 4, api.OK, cell(parity(small, 1), 1))
	wantPut(t, s, 6, api.OK, cell(first(small, 1), 1))
	wantDirty(t, s, 4, 1)
}

// What is answered is new memory: who changes it changes no shelf, and no answer else.
func TestAnswersAreNew(t *testing.T) {
	s := made(t, small, 3)
	wantPut(t, s, 3, api.OK, cell(at(0, 0), 1), cell(at(0, 2), 2), cell(at(2, 1), 3))
	wantClean(t, s, 2, api.OK)
	x, _ := s.Read(mute(t, small), at(0, 2))
	was, other := tell(s, small), tell(s, small)
	for _, l := range other.known {
		l = l[:cap(l)]
		for i := range l {
			l[i] = !l[i]
		}
	}
	for _, l := range other.cells {
		clear(l[:cap(l)])
	}
	for _, l := range [][]int{other.stripes, other.dirty} {
		l = l[:cap(l)]
		for i := range l {
			l[i] = 77
		}
	}
	if other.like(was) {
		t.Fatal("nothing was changed")
	}
	wantTold(t, "answers were changed", s, small, was)
	x[0] ^= 255
	wantTold(t, "a block was changed", s, small, was)
	wantRead(t, s, mute(t, small), at(0, 2), some(2))
}

// P20.4.

// What was put is read until it is put anew, or dropped, whatever is done beside it,
// and whatever the hull says.
func TestWhatWasPutIsRead(t *testing.T) {
	for _, g := range []api.Geo{small, geo(5, 9)} {
		for _, room := range []int{1, 2, 5, maxRoom} {
			for stripe := range g.Stripes {
				h, b := whole(t, g)
				s := made(t, g, room)
				p, d := parity(g, stripe), first(g, stripe)
				wantPut(t, s, 4, api.OK, cell(p, 1), cell(d, 2))
				for n := range 60 {
					other := (stripe + 1 + n%(g.Stripes-1)) % g.Stripes
					c := cell(at(other, n%g.Members), n)
					switch n % 5 {
					case 0, 1:
						s.Read(h, c.Place)
					case 2:
						s.Put(uint64(1+n), []api.Cell{c})
					case 3:
						s.Clean(other)
					case 4:
						h.Write(d, some(n))
						h.Write(p, some(n))
					}
					if n%7 == 0 {
						s.Drop(other)
					}
					if n == 50 {
						wantOK(t, "bench.Fail", b.Fail(d.Member))
						wantOK(t, "bench.Fail", b.Fail(p.Member))
					}
					if n%2 == 0 {
						wantCells(t, s, stripe, sorted(cell(p, 1), cell(d, 2))...)
						continue
					}
					wantRead(t, s, h, p, some(1))
					wantRead(t, s, h, d, some(2))
				}
				wantPut(t, s, 99, api.OK, cell(d, 3), cell(p, 4))
				wantCells(t, s, stripe, sorted(cell(p, 4), cell(d, 3))...)
				wantRead(t, s, h, d, some(3))
				wantDrop(t, s, stripe, api.OK)
				wantNoRead(t, "dropped", s, mute(t, g), d, api.ErrFailed)
			}
		}
	}
}

// sorted are cells of one stripe by rising members.
func sorted(c ...api.Cell) []api.Cell {
	slices.SortFunc(c, func(a, b api.Cell) int { return a.Place.Member - b.Place.Member })
	return c
}

// What is dirty never goes by itself, with the least room and with more.
func TestDirtyNeverGoes(t *testing.T) {
	g := geo(3, 64)
	for room := 1; room <= 63; room++ {
		h, _ := whole(t, g)
		s := made(t, g, room)
		for dirty := 1; dirty <= room; dirty++ {
			wantPut(t, s, uint64(dirty), api.OK, cell(at(dirty-1, 0), dirty))
			for n := range 5 {
				p := at(room+(dirty+n*n)%(64-room), n%3)
				wantRead(t, s, h, p, stood(p))
			}
			wantDirty(t, s, 1, upTo(0, dirty-1)...)
		}
		wantPut(t, s, 1, api.ErrFull, cell(at(63, 0), 0))
		for n := range room {
			wantCells(t, s, n, cell(at(n, 0), n+1))
		}
	}
}

// The document's words, over a plain row of lines.

// row is what a stripe's line is.
type row struct {
	stripe       int
	known, dirty [maxMembers]bool
	b            [maxMembers]api.Block
	first        uint64
}

func (r *row) pinned() bool { return slices.Contains(r.dirty[:], true) }

// words is a shelf by the document's words: the line that was touched last first.
type words struct {
	g    api.Geo
	room int
	rows []*row
}

func (w *words) find(stripe int) (int, *row) {
	for i, r := range w.rows {
		if r.stripe == stripe {
			return i, r
		}
	}
	return -1, &row{stripe: stripe}
}

// touch answers a stripe's line, which is the first one; nil, if there is no room.
func (w *words) touch(stripe int) *row {
	i, r := w.find(stripe)
	if i < 0 && len(w.rows) == w.room {
		for i = w.room - 1; i >= 0 && w.rows[i].pinned(); i-- {
		}
		if i < 0 {
			return nil
		}
	}
	if i >= 0 {
		w.rows = slices.Delete(w.rows, i, i+1)
	}
	w.rows = slices.Insert(w.rows, 0, r)
	return r
}

func (w *words) hasStripe(stripe int) bool { return stripe >= 0 && stripe < w.g.Stripes }

func (w *words) has(p api.Place) bool {
	return w.hasStripe(p.Stripe) && p.Member >= 0 && p.Member < w.g.Members
}

func (w *words) read(h *hull.Hull, p api.Place) (api.Block, api.Errno) {
	if !w.has(p) {
		return api.Block{}, api.ErrArg
	}
	if _, r := w.find(p.Stripe); r.known[p.Member] {
		w.touch(p.Stripe)
		return r.b[p.Member], api.OK
	}
	x, e := fetch.Cell(h, p)
	if e != api.OK {
		return x, e
	}
	if r := w.touch(p.Stripe); r != nil {
		r.known[p.Member], r.b[p.Member] = true, x
	}
	return x, e
}

func (w *words) fits(stripes []int) bool {
	l := append(w.dirty(), stripes...)
	slices.Sort(l)
	return len(slices.Compact(l)) <= w.room
}

func (w *words) put(seq uint64, c []api.Cell) api.Errno {
	if seq == 0 {
		return api.ErrArg
	}
	var stripes []int
	for _, x := range c {
		if !w.has(x.Place) {
			return api.ErrArg
		}
		stripes = append(stripes, x.Place.Stripe)
	}
	if !w.fits(stripes) {
		return api.ErrFull
	}
	for _, x := range c {
		r, m := w.touch(x.Place.Stripe), x.Place.Member
		r.known[m], r.dirty[m], r.b[m] = true, true, x.B
		if r.first == 0 {
			r.first = seq
		}
		r.first = min(r.first, seq)
	}
	for _, stripe := range stripes {
		p := parity(w.g, stripe)
		if _, r := w.find(stripe); !slices.Contains(places(c), p) {
			r.known[p.Member], r.dirty[p.Member], r.b[p.Member] = false, false, api.Block{}
		}
	}
	return api.OK
}

func (w *words) clean(stripe int) api.Errno {
	if !w.hasStripe(stripe) {
		return api.ErrArg
	}
	_, r := w.find(stripe)
	r.dirty, r.first = [maxMembers]bool{}, 0
	return api.OK
}

func (w *words) drop(stripe int) api.Errno {
	if !w.hasStripe(stripe) {
		return api.ErrArg
	}
	if i, _ := w.find(stripe); i >= 0 {
		w.rows = slices.Delete(w.rows, i, i+1)
	}
	return api.OK
}

func (w *words) dirty() []int {
	var l []int
	for _, r := range w.rows {
		if r.pinned() {
			l = append(l, r.stripe)
		}
	}
	slices.Sort(l)
	return l
}

func (w *words) tell() told {
	a := told{dirty: w.dirty()}
	for _, r := range w.rows {
		a.stripes = append(a.stripes, r.stripe)
		if r.pinned() && (a.first == 0 || r.first < a.first) {
			a.first = r.first
		}
	}
	var up []int
	for stripe := -1; stripe <= w.g.Stripes; stripe++ {
		var known []bool
		var cells []api.Cell
		if w.hasStripe(stripe) {
			_, r := w.find(stripe)
			known = slices.Clone(r.known[:w.g.Members])
			for m, dirty := range r.dirty {
				if dirty {
					cells = append(cells, api.Cell{Place: at(stripe, m), B: r.b[m]})
				}
			}
		}
		a.known, a.cells = append(a.known, known), append(a.cells, cells)
		up = append(up, stripe)
		a.fits = append(a.fits, w.fits(up), w.fits(up[stripe+1:]))
	}
	return a
}

// act is one call: what a shelf and the words do.
type act struct {
	name string
	do   func(s *shelf.Shelf, h *hull.Hull) (api.Block, api.Errno)
	by   func(w *words, h *hull.Hull) (api.Block, api.Errno)
}

func reading(p api.Place) act {
	return act{
		"Read " + strconv.Itoa(p.Stripe) + " " + strconv.Itoa(p.Member),
		func(s *shelf.Shelf, h *hull.Hull) (api.Block, api.Errno) { return s.Read(h, p) },
		func(w *words, h *hull.Hull) (api.Block, api.Errno) { return w.read(h, p) },
	}
}

func putting(seq uint64, c ...api.Cell) act {
	name := "Put " + strconv.FormatUint(seq, 10)
	for _, p := range places(c) {
		name += ", " + strconv.Itoa(p.Stripe) + " " + strconv.Itoa(p.Member)
	}
	return act{
		name,
		func(s *shelf.Shelf, h *hull.Hull) (api.Block, api.Errno) { return api.Block{}, s.Put(seq, c) },
		func(w *words, h *hull.Hull) (api.Block, api.Errno) { return api.Block{}, w.put(seq, c) },
	}
}

func cleaning(stripe int) act {
	return act{
		"Clean " + strconv.Itoa(stripe),
		func(s *shelf.Shelf, h *hull.Hull) (api.Block, api.Errno) { return api.Block{}, s.Clean(stripe) },
		func(w *words, h *hull.Hull) (api.Block, api.Errno) { return api.Block{}, w.clean(stripe) },
	}
}

func dropping(stripe int) act {
	return act{
		"Drop " + strconv.Itoa(stripe),
		func(s *shelf.Shelf, h *hull.Hull) (api.Block, api.Errno) { return api.Block{}, s.Drop(stripe) },
		func(w *words, h *hull.Hull) (api.Block, api.Errno) { return api.Block{}, w.drop(stripe) },
	}
}

// pair is a shelf, and what the words say of it.
type pair struct {
	s *shelf.Shelf
	w *words
	l []string // what was done
}

func both(t *testing.T, g api.Geo, room int) *pair {
	return &pair{s: made(t, g, room), w: &words{g: g, room: room}}
}

// take does one thing with both, and says that they answer alike, and tell alike.
func (p *pair) take(t *testing.T, a act, h, k *hull.Hull) {
	t.Helper()
	p.l = append(p.l, a.name)
	x, e := a.do(p.s, h)
	y, f := a.by(p.w, k)
	if x != y || e != f {
		t.Fatalf("room %d: %q = %x, %d, want %x, %d", p.w.room, p.l, x, e, y, f)
	}
	if got, want := tell(p.s, p.w.g), p.w.tell(); !got.like(want) {
		t.Fatalf("room %d: behind %q it tells %v, want %v", p.w.room, p.l, got, want)
	}
}

// end says that both know the same blocks.
func (p *pair) end(t *testing.T, no *hull.Hull) {
	t.Helper()
	for stripe := range p.w.g.Stripes {
		for member := range p.w.g.Members {
			p.take(t, reading(at(stripe, member)), no, no)
		}
	}
}

// fewActs are some of each kind, upon the small geometry; n tells them from others.
func fewActs(n int) []act {
	var l []act
	for stripe := range 3 {
		p, d, next := parity(small, stripe), first(small, stripe), first(small, (stripe+1)%3)
		seq := uint64(50 - n)
		l = append(l, reading(p), reading(d), cleaning(stripe), dropping(stripe),
			putting(seq, cell(p, n)), putting(seq+20, cell(d, n)), putting(seq, cell(p, n), cell(d, 10+n)),
			putting(seq, cell(d, n), cell(next, 10+n), cell(p, 20+n)))
	}
	return l
}

// Each row of up to three acts, with each room, held against the document's words.
func TestEachRowOfActs(t *testing.T) {
	h, no := healthy(t, small), mute(t, small)
	for room := 1; room <= 3; room++ {
		for _, a := range fewActs(1) {
			for _, b := range fewActs(2) {
				for _, c := range fewActs(3) {
					p := both(t, small, room)
					for _, act := range []act{a, b, c} {
						p.take(t, act, h, h)
					}
					p.end(t, no)
				}
			}
		}
	}
}

func healthy(t *testing.T, g api.Geo) *hull.Hull {
	t.Helper()
	h, _ := whole(t, g)
	return h
}

// anyAct is an act of any kind, some of which may not be.
func anyAct(roll func(int) int, n int, g api.Geo) act {
	stripe, member := roll(g.Stripes), roll(g.Members)
	if roll(30) == 0 {
		stripe = roll(g.Stripes+2) - 1
		member = roll(g.Members+2) - 1
	}
	switch kind := roll(20); {
	case kind < 8:
		return reading(at(stripe, member))
	case kind < 10:
		return cleaning(stripe)
	case kind < 11:
		return dropping(stripe)
	}
	c := []api.Cell{cell(at(stripe, member), n)}
	for range roll(5) {
		next := at(roll(g.Stripes), roll(g.Members))
		if roll(2) == 0 {
			next = parity(g, next.Stripe)
		}
		if roll(2) == 0 {
			next.Stripe = max(0, min(stripe, g.Stripes-1))
		}
		c = append(c, cell(next, 1000+n*8+len(c)))
	}
	return putting(uint64(roll(40)*roll(40)), c...)
}

// Long rows of calls of all kinds, with members that fail and are put in anew between
// them, and the power that is cut, held against the document's words; the hull is asked
// for no more than they say.
func TestRows(t *testing.T) {
	for seed := range 240 {
		roll := dice(seed)
		g := geo(3+roll(4), 1+roll(9))
		b := laid(t, g)
		c := b.Copy()
		h, k := hulled(t, g, b), hulled(t, g, c)
		p := both(t, g, 1+roll(g.Stripes+2))
		for n := range 120 {
			if seed%3 > 0 {
				upset(t, []*bench.Bench{b, c}, []*hull.Hull{h, k}, g, roll)
			}
			p.take(t, anyAct(roll, n, g), h, k)
			if h.Event() != k.Event() || h.Roster() != k.Roster() || b.Steps() != c.Steps() || b.Dark() != c.Dark() {
				t.Fatalf("seed %d: behind %q: Event, Steps = %d %d, want %d %d", seed, p.l, h.Event(), b.Steps(), k.Event(), c.Steps())
			}
		}
		p.end(t, mute(t, g))
	}
}

// upset is something that comes from without, now and then.
func upset(t *testing.T, benches []*bench.Bench, hulls []*hull.Hull, g api.Geo, roll func(int) int) {
	t.Helper()
	what, m, s, n, x := roll(50), roll(g.Members), roll(g.Stripes), roll(size), some(roll(1000))
	for i, b := range benches {
		switch h := hulls[i]; what {
		case 0:
			b.Fail(m)
		case 1:
			b.Arm(1 + n%6)
		case 2, 3:
			b.Crash(nil)
		case 4:
			b.Rot(m, supers+s, n, 1)
		case 5, 6, 7:
			h.Write(at(s, m), x)
		case 8, 9, 10, 11:
			b.Insert(m)
			h.Begin(m)
		case 12, 13, 14, 15, 16, 17, 18:
			h.Fill(x)
		case 19:
			h.Gone(n < 8)
		}
	}
}

// The rules that hold everywhere.

// What a call answers hangs on what the shelf was given alone: shelves that were given
// the same tell the same, and two side by side are each as if the other was not.
func TestAgainAndApart(t *testing.T) {
	for seed := range 20 {
		g := geo(3+seed%3, 8)
		h := healthy(t, g)
		var l [3]*pair
		var rolls [3]func(int) int
		for i := range l {
			l[i] = both(t, g, 1+(seed+i/2)%6)
			rolls[i] = dice(500 + seed + i/2)
		}
		for n := range 80 {
			for i := range l {
				l[i].take(t, anyAct(rolls[i], n, g), h, h)
			}
			if !tell(l[0].s, g).like(tell(l[1].s, g)) {
				t.Fatalf("two that were given the same: %q", l[0].l)
			}
		}
	}
}
