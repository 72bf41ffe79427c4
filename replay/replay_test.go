package replay_test

import (
	"slices"
	"strconv"
	"testing"

	"ashlar/api"
	"ashlar/bench"
	"ashlar/cells"
	"ashlar/gather"
	"ashlar/hull"
	"ashlar/log"
	"ashlar/mark"
	"ashlar/note"
	"ashlar/replay"
	"ashlar/roster"
)

// The document's numbers, written out, so that a limit that is asked wrongly is told.
const (
	size       = 64
	supers     = 2
	notesAt    = 2
	slots      = 8
	ringAt     = 10
	maxMembers = 16
	maxStripes = 64
	maxCells   = 32
	top        = 2305843009213693952
	greatest   = 1<<64 - 1
)

// id is the number of the array whose members and log the tests' ones are.
const id = 0x0102030405060708

// small has the fewest members, and a stripe for the parity of each of them, and one
// more; wide has the most, and the longest ring.
var (
	small = geo(3, 4)
	wide  = api.Geo{Members: 16, Stripes: 64, Ring: 256}
)

func geo(members, stripes int) api.Geo {
	return api.Geo{Members: members, Stripes: stripes, Ring: 40}
}

func at(stripe, member int) api.Place { return api.Place{Stripe: stripe, Member: member} }

// dice answers numbers from 0 to below a bound, the same ones for the same seed.
func dice(seed int) func(bound int) int {
	n := uint32(seed)*2654435761 + 12345
	return func(bound int) int {
		n = n*1664525 + 1013904223
		return int(n>>8) % bound
	}
}

// some is a block that is another one for each seed.
func some(seed int) api.Block {
	var b api.Block
	roll := dice(seed)
	for i := range b {
		b[i] = byte(roll(256))
	}
	return b
}

// stood is the block that stands at a place of the members of the tests.
func stood(p api.Place) api.Block { return some(1_000_000 + 100*p.Stripe + p.Member) }

// cell is a cell whose block is told by its seed.
func cell(p api.Place, seed int) api.Cell { return api.Cell{Place: p, B: some(seed)} }

// cellsOf are the cells of some members of a stripe, each with a block of its own.
func cellsOf(stripe int, members ...int) []api.Cell {
	var c []api.Cell
	for _, m := range members {
		c = append(c, cell(at(stripe, m), 2000+100*stripe+m))
	}
	return c
}

// row is so many cells at places of a geometry that go on and on, the blocks told by a seed.
func row(g api.Geo, many, seed int) []api.Cell {
	var c []api.Cell
	for i := range many {
		n := 5*seed + i
		c = append(c, cell(at(n/g.Members%g.Stripes, n%g.Members), 10_000*seed+i))
	}
	return c
}

// upTo are the numbers from one to another, that one too.
func upTo(from, to int) []int {
	var l []int
	for n := from; n <= to; n++ {
		l = append(l, n)
	}
	return l
}

func backwards[T any](l []T) []T {
	l = slices.Clone(l)
	slices.Reverse(l)
	return l
}

// chosen are the numbers below a bound whose bits are set.
func chosen(bits, bound int) []int {
	var l []int
	for n := range bound {
		if bits>>n&1 == 1 {
			l = append(l, n)
		}
	}
	return l
}

// without are the cells of other members than one.
func without(c []api.Cell, member int) []api.Cell {
	return slices.DeleteFunc(slices.Clone(c), func(x api.Cell) bool { return x.Place.Member == member })
}

// losing is a roster of members that are all in sync but those that are lost.
func losing(g api.Geo, lost ...int) api.Roster {
	r := api.Roster{Geo: g}
	for _, m := range lost {
		r.States[m] = api.Lost
	}
	return r
}

// healing is a roster of which one member heals, and is made anew up to a stripe.
func healing(g api.Geo, member, cursor int) api.Roster {
	r := api.Roster{Geo: g, Cursor: cursor}
	r.States[member] = api.Healing
	return r
}

// site is an array's members and its log, upon one bench.
type site struct {
	g api.Geo
	b *bench.Bench
	l *log.Log
	h *hull.Hull
}

// built is a site upon which the blocks of a geometry stand for sure, of members as a
// roster says, whose log has some records, from 1 on.
func built(t *testing.T, r api.Roster, records ...[]api.Cell) *site {
	t.Helper()
	s := &site{g: r.Geo, b: laid(t, r.Geo)}
	var e api.Errno
	s.l, e = log.Lay(s.b, s.g.Members, id, s.g.Ring)
	wantOK(t, "log.Lay", e)
	s.h, e = hull.New(s.b, id, 0, r)
	wantOK(t, "hull.New", e)
	wantOK(t, "hull.Save", s.h.Save())
	s.append(t, records...)
	return s
}

// whole is a site whose members are all in sync but those that are lost.
func whole(t *testing.T, g api.Geo, records ...[]api.Cell) *site {
	t.Helper()
	return built(t, losing(g), records...)
}

// laid is a bench upon whose members the blocks of a geometry stand for sure.
func laid(t *testing.T, g api.Geo) *bench.Bench {
	t.Helper()
	var sizes []int
	for range g.Members {
		sizes = append(sizes, supers+g.Stripes)
	}
	b, e := bench.New(append(sizes, ringAt+g.Ring))
	wantOK(t, "bench.New", e)
	for m := range g.Members {
		for s := range g.Stripes {
			wantOK(t, "bench.Write", b.Write(m, supers+s, stood(at(s, m))))
		}
		wantOK(t, "bench.Flush", b.Flush(m))
	}
	return b
}

// append appends records to a site's log.
func (s *site) append(t *testing.T, records ...[]api.Cell) {
	t.Helper()
	for _, c := range records {
		_, e := s.l.Append(c)
		wantOK(t, "log.Append", e)
	}
}

// reopen opens a site's log anew, and makes its hull of what its devices tell.
func (s *site) reopen(t *testing.T) {
	t.Helper()
	var e api.Errno
	s.l, e = log.Open(s.b, s.g.Members)
	wantOK(t, "log.Open", e)
	f, e := gather.Look(s.b)
	wantOK(t, "gather.Look", e)
	s.h, e = hull.New(s.b, f.Id, f.Event, f.Roster)
	wantOK(t, "hull.New", e)
}

// fail makes devices dead.
func (s *site) fail(t *testing.T, dead ...int) {
	t.Helper()
	for _, d := range dead {
		wantOK(t, "bench.Fail", s.b.Fail(d))
	}
}

// arm cuts the power at a step from here on.
func (s *site) arm(t *testing.T, n int) {
	t.Helper()
	wantOK(t, "bench.Arm", s.b.Arm(n))
}

// darken cuts the power of a bench, without anything written.
func darken(t *testing.T, b *bench.Bench) {
	t.Helper()
	wantOK(t, "bench.Arm", b.Arm(1))
	for d := range b.Devices() {
		if !b.Dead(d) {
			want(t, "bench.Flush", b.Flush(d), api.ErrPower)
			return
		}
	}
}

// keep are picks with which all is kept that was written.
func keep() []int { return slices.Repeat([]int{size}, 5000) }

// entry is a record as it stands in the ring, and how many cells its note says that it has.
type entry struct {
	many    int
	sectors []api.Block
}

// entryOf is the record of cells.
func entryOf(t *testing.T, c []api.Cell) entry {
	t.Helper()
	l, e := cells.Put(c)
	wantOK(t, "cells.Put", e)
	return entry{many: len(c), sectors: l}
}

// forge makes a log stand on a site's last device, by hand, with records of whatever
// bytes, whose sums are those that their notes tell; and opens it.
func (s *site) forge(t *testing.T, count, first, at uint64, entries ...entry) {
	t.Helper()
	d := s.g.Members
	put := func(n int, x api.Block, e api.Errno) {
		t.Helper()
		wantOK(t, "Put", e)
		wantOK(t, "bench.Write", s.b.Write(d, n, x))
	}
	x, e := mark.Put(count, api.Mark{Id: id, Ring: s.g.Ring, First: first, At: at})
	put(int(count%2), x, e)
	seq, head := first, at
	for _, l := range entries {
		x, e := note.Put(api.Note{Seq: seq, At: head, Cells: l.many, Sum: cells.Sum(l.sectors)})
		put(notesAt+int(seq%slots), x, e)
		for _, x := range l.sectors {
			put(ringAt+int(head%uint64(s.g.Ring)), x, api.OK)
			head++
		}
		seq++
	}
	wantOK(t, "bench.Flush", s.b.Flush(d))
	s.l, e = log.Open(s.b, d)
	wantOK(t, "log.Open", e)
	wantLive(t, s, first, seq)
}

func want(t *testing.T, what string, got, want api.Errno) {
	t.Helper()
	if got != want {
		t.Fatalf("%s = %d, want %d", what, got, want)
	}
}

func wantOK(t *testing.T, what string, e api.Errno) {
	t.Helper()
	want(t, what, e, api.OK)
}

func wantOne(t *testing.T, s *site, seq uint64, e api.Errno) {
	t.Helper()
	want(t, "One("+strconv.FormatUint(seq, 10)+")", replay.One(s.l, s.h, seq), e)
}

func wantAll(t *testing.T, s *site, many int, e api.Errno) {
	t.Helper()
	if n, is := replay.All(s.l, s.h); n != many || is != e {
		t.Fatalf("All = %d, %d, want %d, %d", n, is, many, e)
	}
}

func wantLive(t *testing.T, s *site, first, next uint64) {
	t.Helper()
	if a, b := s.l.Live(); a != first || b != next {
		t.Fatalf("Live = %d %d, want %d %d", a, b, first, next)
	}
}

// wantRecords says that a site's log has some records, from one on, and no others.
func wantRecords(t *testing.T, s *site, first uint64, records ...[]api.Cell) {
	t.Helper()
	wantLive(t, s, first, first+uint64(len(records)))
	for i, c := range records {
		if is, e := s.l.Record(first + uint64(i)); !slices.Equal(is, c) || e != api.OK {
			t.Fatalf("Record(%d) = %v, %d, want %v", first+uint64(i), is, e, c)
		}
	}
}

func wantSteps(t *testing.T, s *site, steps int) {
	t.Helper()
	if s.b.Steps() != steps {
		t.Fatalf("Steps = %d, want %d", s.b.Steps(), steps)
	}
}

func wantHull(t *testing.T, s *site, state int, event uint64) {
	t.Helper()
	if s.h.State() != state || s.h.Event() != event {
		t.Fatalf("State, Event = %d, %d, want %d, %d", s.h.State(), s.h.Event(), state, event)
	}
}

// wantBlocks says that some cells are read of the members, and what stood at the other
// places; what is read of those that are dead is asked for nothing.
func wantBlocks(t *testing.T, s *site, c ...api.Cell) {
	t.Helper()
	for p, x := range blocks(s.g, c) {
		if is, e := s.b.Read(p.Member, supers+p.Stripe); e != api.ErrDead && (is != x || e != api.OK) {
			t.Fatalf("Read(%v) = %x, %d, want %x", p, is, e, x)
		}
	}
}

// wantSure says that some cells are sure of the members, and what stood at the others.
func wantSure(t *testing.T, s *site, c ...api.Cell) {
	t.Helper()
	for p, x := range blocks(s.g, c) {
		if is, e := s.b.Sure(p.Member, supers+p.Stripe); e != api.ErrDead && (is != x || e != api.OK) {
			t.Fatalf("Sure(%v) = %x, %d, want %x", p, is, e, x)
		}
	}
}

// blocks is what stands at each place of a geometry, with some cells over it, one by one.
func blocks(g api.Geo, c []api.Cell) map[api.Place]api.Block {
	l := map[api.Place]api.Block{}
	for stripe := range g.Stripes {
		for member := range g.Members {
			l[at(stripe, member)] = stood(at(stripe, member))
		}
	}
	for _, x := range c {
		l[x.Place] = x.B
	}
	return l
}

// sector is what is read of a sector of a bench, and what is sure of it.
func sector(b *bench.Bench, d, n int) [2]api.Block {
	x, _ := b.Read(d, n)
	y, _ := b.Sure(d, n)
	return [2]api.Block{x, y}
}

// wantDevice says that a device of two benches is the same.
func wantDevice(t *testing.T, what string, d int, a, b *bench.Bench) {
	t.Helper()
	for n := range a.Sectors(d) {
		if is, was := sector(a, d, n), sector(b, d, n); is != was || a.Dead(d) != b.Dead(d) {
			t.Fatalf("%s: the device %d, sector %d: %x, want %x", what, d, n, is, was)
		}
	}
}

// wantSame says that two benches are the same, but for their steps.
func wantSame(t *testing.T, what string, a, b *bench.Bench) {
	t.Helper()
	for d := range a.Devices() {
		wantDevice(t, what, d, a, b)
	}
	if a.Dark() != b.Dark() {
		t.Fatalf("%s: Dark = %t", what, a.Dark())
	}
}

// wantUntouched says that nothing was done of a site since its bench was copied.
func wantUntouched(t *testing.T, what string, s *site, was *bench.Bench) {
	t.Helper()
	wantSame(t, what, s.b, was)
	wantSteps(t, s, was.Steps())
}

// The chapter's examples.

func TestExamples(t *testing.T) {
	s := whole(t, small)
	wantAll(t, s, 0, api.OK)
	wantLive(t, s, 1, 1)
	c := [][]api.Cell{cellsOf(0, 0, 2), cellsOf(1, 2)}
	s.append(t, c...)
	wantAll(t, s, 2, api.OK)
	wantLive(t, s, 3, 3)
	wantSure(t, s, slices.Concat(c...)...)
	wantOne(t, s, 9, api.ErrNone)
}

// What is not there.

// Without a log or a hull that comes ahead of all else, and nothing is done of what is
// there: also of records that are none, in the dark, of an array that is Failed, and of
// a log that is dead, or without records.
func TestNothingThere(t *testing.T) {
	for _, how := range []string{"whole", "empty", "failed", "dark", "dead", "spoilt"} {
		s := whole(t, small, cellsOf(0, 0, 1), cellsOf(2, 2))
		switch how {
		case "empty":
			s = whole(t, small)
		case "failed":
			s = built(t, losing(small, 0, 1), cellsOf(0, 0, 1))
		case "dark":
			darken(t, s.b)
		case "dead":
			s.fail(t, 0, 3)
		case "spoilt":
			wantOK(t, "bench.Rot", s.b.Rot(3, ringAt, 0, 1))
		}
		was, event := s.b.Copy(), s.h.Event()
		first, next := s.l.Live()
		for _, none := range []*log.Log{nil, {}} {
			for _, h := range []*hull.Hull{nil, {}, s.h} {
				wantNone(t, how, none, h)
			}
		}
		for _, none := range []*hull.Hull{nil, {}} {
			wantNone(t, how, s.l, none)
		}
		wantUntouched(t, how, s, was)
		wantLive(t, s, first, next)
		if s.h.Event() != event {
			t.Fatalf("%s: Event = %d", how, s.h.Event())
		}
	}
}

func wantNone(t *testing.T, how string, l *log.Log, h *hull.Hull) {
	t.Helper()
	for _, seq := range []uint64{0, 1, 2, 3, 4, top, greatest} {
		want(t, how+": One", replay.One(l, h, seq), api.ErrNil)
	}
	if many, e := replay.All(l, h); many != 0 || e != api.ErrNil {
		t.Fatalf("%s: All = %d, %d", how, many, e)
	}
}

// P23.1.

// The first that lives, the last, and those in the midst: its cells are written, each in
// one step, and no others; nothing is flushed, and the log is as it was.
func TestOneOfEachRecord(t *testing.T) {
	for many := 1; many <= slots; many++ {
		var records [][]api.Cell
		for n := range many {
			records = append(records, row(small, 1+n%3, n+1))
		}
		for n, c := range records {
			s := whole(t, small, records...)
			was := s.b.Copy()
			wantOne(t, s, uint64(n+1), api.OK)
			wantBlocks(t, s, c...)
			wantSure(t, s)
			wantSteps(t, s, was.Steps()+len(c))
			wantDevice(t, "the log", 3, s.b, was)
			wantRecords(t, s, 1, records...)
			wantHull(t, s, api.Optimal, 1)
		}
	}
}

// A record that does not live: nothing is done, in whatever state the array is, since
// nothing is asked of the bench.
func TestOneOfNoRecord(t *testing.T) {
	for _, how := range []string{"whole", "failed", "dark", "dead"} {
		r := losing(small)
		if how == "failed" {
			r = losing(small, 0, 2)
		}
		s := built(t, r, cellsOf(0, 1), cellsOf(1, 1), cellsOf(2, 1), cellsOf(3, 1))
		wantOK(t, "log.Clear", s.l.Clear(3))
		switch how {
		case "dark":
			darken(t, s.b)
		case "dead":
			s.fail(t, 0, 1, 3)
		}
		was := s.b.Copy()
		for _, seq := range []uint64{0, 1, 2, 5, 6, 7, 8, 11, 12, 1 << 32, 1<<32 + 3, top, top + 3, 1<<63 - 1, 1 << 63, 1<<63 + 3, greatest - 1, greatest} {
			wantOne(t, s, seq, api.ErrNone)
		}
		wantUntouched(t, how, s, was)
		wantLive(t, s, 3, 5)
	}
}

// Of a log in which nothing lives there is no record, neither of one that was laid nor
// of one that was cleared.
func TestOneOfAnEmptyLog(t *testing.T) {
	s := whole(t, small)
	for seq := range uint64(4) {
		wantOne(t, s, seq, api.ErrNone)
	}
	s.append(t, cellsOf(0, 1), cellsOf(1, 2))
	wantOK(t, "log.Clear", s.l.Clear(3))
	for seq := range uint64(6) {
		wantOne(t, s, seq, api.ErrNone)
	}
	wantBlocks(t, s)
}

// Records of each length that there may be.
func TestOneOfEachLength(t *testing.T) {
	for many := 1; many <= maxCells; many++ {
		for _, g := range []api.Geo{geo(3, 11), geo(5, 7), wide} {
			c := row(g, many, many)
			for _, l := range [][]api.Cell{c, backwards(c)} {
				s := whole(t, g, l)
				steps := s.b.Steps()
				wantOne(t, s, 1, api.OK)
				wantBlocks(t, s, c...)
				wantSteps(t, s, steps+many)
			}
		}
	}
}

// Each choice of cells of a stripe, the parity's too, whatever it is of the others.
func TestOneOfEachCells(t *testing.T) {
	for _, g := range []api.Geo{small, geo(5, 2)} {
		for stripe := range g.Stripes {
			for bits := 1; bits < 1<<g.Members; bits++ {
				s := whole(t, g, cellsOf(stripe, chosen(bits, g.Members)...))
				wantOne(t, s, 1, api.OK)
				wantBlocks(t, s, cellsOf(stripe, chosen(bits, g.Members)...)...)
			}
		}
	}
}

// Of the same place twice the later one stays; each is written, in order.
func TestOneOfTheSamePlaceTwice(t *testing.T) {
	p, q := at(1, 2), at(3, 0)
	var often []api.Cell
	for n := range maxCells {
		often = append(often, cell(q, 700+n))
	}
	for _, c := range [][]api.Cell{
		{cell(p, 1), cell(p, 2)},
		{cell(p, 2), cell(p, 1)},
		{cell(p, 1), cell(p, 1)},
		{cell(p, 1), cell(q, 2), cell(p, 3)},
		{cell(q, 1), cell(p, 2), cell(p, 3), cell(q, 4), cell(p, 2)},
		often,
		backwards(often),
	} {
		for cut := 1; cut <= len(c); cut++ {
			s := whole(t, small, c)
			s.arm(t, cut)
			wantOne(t, s, 1, api.ErrPower)
			wantOK(t, "bench.Crash", s.b.Crash(keep()))
			wantBlocks(t, s, c[:cut-1]...)
			wantOne(t, s, 1, api.OK)
			wantBlocks(t, s, c...)
		}
	}
}

// strangers are places that the small geometry has not, but a record may have.
func strangers() []api.Place {
	return []api.Place{at(4, 0), at(4, 2), at(5, 1), at(63, 0), at(0, 3), at(3, 3), at(1, 4), at(2, 15), at(4, 3), at(63, 15)}
}

// A place that is none of the hull's, wherever it stands in the record: nothing is
// written of the others, and the log is as it was.
func TestOneOfNoPlace(t *testing.T) {
	for _, p := range strangers() {
		for _, many := range []int{1, 2, 3, 17, 32} {
			for _, where := range []int{0, many / 2, many - 1} {
				c := row(small, many, 3)
				c[where].Place = p
				s := whole(t, small, cellsOf(0, 1), c)
				was := s.b.Copy()
				for range 2 {
					wantOne(t, s, 2, api.ErrForm)
				}
				wantUntouched(t, "no place", s, was)
				wantRecords(t, s, 1, cellsOf(0, 1), c)
				wantHull(t, s, api.Optimal, 1)
				wantOne(t, s, 1, api.OK)
			}
		}
	}
}

// The last stripe and the last member of each geometry are there, one more is none.
func TestOneOfTheLastPlace(t *testing.T) {
	for members := 3; members <= maxMembers; members++ {
		for _, stripes := range []int{1, 2, 3, 4, 31, 63, 64} {
			g := geo(members, stripes)
			c := cellsOf(stripes-1, 0, members-1)
			s := whole(t, g, c)
			wantOne(t, s, 1, api.OK)
			wantBlocks(t, s, c...)
			if stripes < maxStripes {
				s = whole(t, g, append(slices.Clone(c), cell(at(stripes, 0), 1)))
				wantOne(t, s, 1, api.ErrForm)
				wantBlocks(t, s)
			}
			if members < maxMembers {
				s = whole(t, g, append(slices.Clone(c), cell(at(0, members), 1)))
				wantOne(t, s, 1, api.ErrForm)
				wantBlocks(t, s)
			}
		}
	}
}

// A place that is none comes ahead of all that the hull would say of the others: also
// where it is dark, Failed, or has a member that is dead, which is not found then.
func TestOneOfNoPlaceComesFirst(t *testing.T) {
	c := append(cellsOf(1, 0, 1, 2), cell(at(4, 0), 9))
	for _, how := range []string{"failed", "lost", "dark", "dead"} {
		r := losing(small)
		switch how {
		case "failed":
			r = losing(small, 0, 1)
		case "lost":
			r = losing(small, 0)
		}
		s := built(t, r)
		lone, e := bench.New([]int{ringAt + 40})
		wantOK(t, "bench.New", e)
		s.l, e = log.Lay(lone, 0, id, 40)
		wantOK(t, "log.Lay", e)
		s.append(t, c)
		switch how {
		case "dark":
			darken(t, s.b)
		case "dead":
			s.fail(t, 0)
		}
		was := s.b.Copy()
		wantOne(t, s, 1, api.ErrForm)
		wantAll(t, s, 0, api.ErrForm)
		wantUntouched(t, how, s, was)
		wantRecords(t, s, 1, c)
	}
}

// odd are records that no cells have, of three cells of the small geometry, though
// their sums are right.
func odd(t *testing.T) []entry {
	t.Helper()
	spoil := func(n, at int, by byte) entry {
		l := entryOf(t, cellsOf(1, 0, 1, 2))
		l.sectors[n][at] ^= by
		return l
	}
	return []entry{
		spoil(0, 0, 0x40), // a stripe of 64 and more
		spoil(0, 0, 0xff),
		spoil(0, 5, 0x01),
		spoil(0, 5, 0xff),
		spoil(0, 8, 0x80),
		spoil(0, 2, 0x10), // a member of 16 and more
		spoil(0, 6, 0xff),
		spoil(0, 10, 0x80),
		spoil(0, 3, 0x01), // what is 0 is not
		spoil(0, 11, 0xff),
		spoil(0, 12, 0x01),
		spoil(0, 63, 0x01),
	}
}

// A record that may not be, with a sum that is right: nothing of it is written.
func TestOneOfAnOddRecord(t *testing.T) {
	for _, l := range odd(t) {
		s := whole(t, small)
		s.forge(t, 5, 7, 11, entryOf(t, cellsOf(0, 0)), l, entryOf(t, cellsOf(2, 0)))
		was := s.b.Copy()
		wantOne(t, s, 8, api.ErrForm)
		wantUntouched(t, "an odd record", s, was)
		wantLive(t, s, 7, 10)
		wantOne(t, s, 7, api.OK)
		wantOne(t, s, 9, api.OK)
		wantBlocks(t, s, append(cellsOf(0, 0), cellsOf(2, 0)...)...)
	}
}

// A record of which a byte is spoilt, whichever it is: nothing of it is written; those
// beside it are done again as ever.
func TestOneOfASpoiltRecord(t *testing.T) {
	records := [][]api.Cell{row(small, 2, 1), row(small, 17, 2), row(small, 3, 3)}
	for n := 3; n < 3+19; n++ {
		for _, at := range []int{0, 1, 2, 3, 31, 62, 63} {
			s := whole(t, small, records...)
			wantOK(t, "bench.Rot", s.b.Rot(3, ringAt+n, at, 1<<(n%8)))
			was := s.b.Copy()
			for range 2 {
				wantOne(t, s, 2, api.ErrSum)
			}
			wantUntouched(t, "spoilt", s, was)
			wantLive(t, s, 1, 4)
			wantOne(t, s, 1, api.OK)
			wantOne(t, s, 3, api.OK)
			wantBlocks(t, s, append(slices.Clone(records[0]), records[2]...)...)
		}
	}
}

// A record is read each time anew: what is spoilt behind a One is told by the next one.
func TestOneReadsAnew(t *testing.T) {
	s := whole(t, small, cellsOf(1, 0, 1))
	wantOne(t, s, 1, api.OK)
	wantOK(t, "bench.Rot", s.b.Rot(3, ringAt+2, 5, 8))
	wantOne(t, s, 1, api.ErrSum)
	wantOK(t, "bench.Rot", s.b.Rot(3, ringAt+2, 5, 8))
	wantOK(t, "hull.Write", s.h.Write(at(1, 0), some(1)))
	wantOne(t, s, 1, api.OK)
	wantBlocks(t, s, cellsOf(1, 0, 1)...)
}

// A log's device that is dead: nothing is written.
func TestOneOfADeadLog(t *testing.T) {
	for _, r := range []api.Roster{losing(small), losing(small, 1), losing(small, 0, 1)} {
		s := built(t, r, cellsOf(1, 0, 1), cellsOf(2, 2))
		s.fail(t, 3)
		was := s.b.Copy()
		wantOne(t, s, 1, api.ErrDead)
		wantOne(t, s, 2, api.ErrDead)
		wantOne(t, s, 3, api.ErrNone)
		wantUntouched(t, "a dead log", s, was)
		wantLive(t, s, 1, 3)
	}
}

// The errors of a record come ahead of what its places and the hull would say, in their
// order.
func TestOneOfSeveralErrors(t *testing.T) {
	for _, r := range []api.Roster{losing(small), losing(small, 0, 1)} {
		for _, l := range append(odd(t), entryOf(t, append(cellsOf(1, 0), cell(at(4, 3), 1), cell(at(0, 0), 2)))) {
			s := built(t, r)
			s.forge(t, 5, 7, 11, l)
			wantOne(t, s, 7, api.ErrForm)
			wantOK(t, "bench.Rot", s.b.Rot(3, ringAt+13, 0, 1))
			wantOne(t, s, 7, api.ErrSum)
			s.fail(t, 3)
			wantOne(t, s, 7, api.ErrDead)
			darken(t, s.b)
			wantOne(t, s, 7, api.ErrPower)
			wantOne(t, s, 8, api.ErrNone)
			wantBlocks(t, &site{g: small, b: keptAll(t, s.b)})
		}
	}
}

// keptAll is a copy of a bench in which there is power, with all kept that was written.
func keptAll(t *testing.T, b *bench.Bench) *bench.Bench {
	t.Helper()
	b = b.Copy()
	wantOK(t, "bench.Crash", b.Crash(keep()))
	return b
}

// In the dark nothing is done, of whatever members.
func TestOneInTheDark(t *testing.T) {
	for _, r := range []api.Roster{losing(small), losing(small, 0), losing(small, 0, 1)} {
		s := built(t, r, cellsOf(1, 0))
		darken(t, s.b)
		was := s.b.Copy()
		wantOne(t, s, 1, api.ErrPower)
		wantUntouched(t, "dark", s, was)
		wantLive(t, s, 1, 2)
	}
}

// apart is a site whose log has a bench of its own, with some records.
func apart(t *testing.T, r api.Roster, records ...[]api.Cell) (*site, *bench.Bench) {
	t.Helper()
	s := built(t, r)
	lone, e := bench.New([]int{3, ringAt + r.Geo.Ring})
	wantOK(t, "bench.New", e)
	s.l, e = log.Lay(lone, 1, id, r.Geo.Ring)
	wantOK(t, "log.Lay", e)
	s.append(t, records...)
	return s, lone
}

// Where log and hull have benches of their own, the dark of one is not the other's.
func TestOneOfTwoBenches(t *testing.T) {
	c := cellsOf(1, 0, 1, 2)
	s, lone := apart(t, losing(small), c)
	wantOne(t, s, 1, api.OK)
	wantBlocks(t, s, c...)

	s, lone = apart(t, losing(small), c)
	darken(t, lone)
	wantOne(t, s, 1, api.ErrPower)
	wantBlocks(t, s)
	wantOK(t, "bench.Crash", lone.Crash(nil))
	wantOne(t, s, 1, api.OK)
	wantBlocks(t, s, c...)

	s, _ = apart(t, losing(small), c)
	darken(t, s.b)
	wantOne(t, s, 1, api.ErrPower)
	wantOK(t, "bench.Crash", s.b.Crash(nil))
	wantBlocks(t, s)

	// Of a member that is lost nothing is asked.
	s, _ = apart(t, losing(small, 0), cellsOf(1, 0))
	darken(t, s.b)
	wantOne(t, s, 1, api.OK)

	s, _ = apart(t, losing(small, 0, 1), cellsOf(1, 0))
	darken(t, s.b)
	wantOne(t, s, 1, api.ErrFailed)
}

// A log of another number than the hull's is done again all the same: whose it is, is
// not asked here.
func TestOneOfAnotherArraysLog(t *testing.T) {
	s := whole(t, small)
	l, e := log.Lay(s.b, 3, id+1, 40)
	wantOK(t, "log.Lay", e)
	s.l = l
	s.append(t, cellsOf(1, 0, 1))
	wantOne(t, s, 1, api.OK)
	wantAll(t, s, 1, api.OK)
	wantSure(t, s, cellsOf(1, 0, 1)...)
}

// A member that is lost takes nothing, and hinders nothing, be its device dead or there.
func TestOneOfOneLost(t *testing.T) {
	for _, g := range []api.Geo{small, geo(5, 2)} {
		for lost := range g.Members {
			for bits := 1; bits < 1<<g.Members; bits++ {
				for _, dead := range []bool{false, true} {
					c := cellsOf(1, chosen(bits, g.Members)...)
					s := built(t, losing(g, lost), c)
					if dead {
						s.fail(t, lost)
					}
					steps := s.b.Steps()
					wantOne(t, s, 1, api.OK)
					wantBlocks(t, s, without(c, lost)...)
					wantSteps(t, s, steps+len(without(c, lost)))
					wantHull(t, s, api.Degraded, 1)
				}
			}
		}
	}
}

// An array whose log is said to be gone is written as ever.
func TestOneOfAReadOnlyArray(t *testing.T) {
	r := losing(small)
	r.Gone = true
	s := built(t, r, cellsOf(2, 0, 1, 2))
	wantOne(t, s, 1, api.OK)
	wantBlocks(t, s, cellsOf(2, 0, 1, 2)...)
	wantHull(t, s, api.ReadOnly, 1)
}

// A member that heals takes what is below its cursor alone.
func TestOneOfOneThatHeals(t *testing.T) {
	for _, g := range []api.Geo{small, geo(4, 6)} {
		for heals := range g.Members {
			for cursor := range g.Stripes {
				var c, written []api.Cell
				for stripe := range g.Stripes {
					l := cellsOf(stripe, backwards(upTo(0, g.Members-1))...)
					c = append(c, l...)
					if stripe >= cursor {
						l = without(l, heals)
					}
					written = append(written, l...)
				}
				s := built(t, healing(g, heals, cursor), c)
				wantOne(t, s, 1, api.OK)
				wantBlocks(t, s, written...)
				wantHull(t, s, api.Rebuilding, 1)
				if s.h.Roster() != healing(g, heals, cursor) {
					t.Fatalf("Roster = %v", s.h.Roster())
				}
			}
		}
	}
}

// A member that is dead, and not known to be, is found dead if a cell is its own, and
// all else is written, what stands behind it, too.
func TestOneFindsOneDead(t *testing.T) {
	for _, g := range []api.Geo{small, geo(5, 2)} {
		for dead := range g.Members {
			for bits := 1; bits < 1<<g.Members; bits++ {
				c := cellsOf(1, chosen(bits, g.Members)...)
				s := whole(t, g, c)
				s.fail(t, dead)
				wantOne(t, s, 1, api.OK)
				wantBlocks(t, s, without(c, dead)...)
				if bits>>dead&1 == 1 {
					wantHull(t, s, api.Degraded, 2)
				} else {
					wantHull(t, s, api.Optimal, 1)
				}
				wantRecords(t, s, 1, c)
			}
		}
	}
}

// Of an array that is Failed nothing is written, also of members that are there.
func TestOneOfAFailedArray(t *testing.T) {
	gone := losing(small, 2)
	gone.Gone = true
	for _, r := range []api.Roster{losing(small, 0, 1), losing(small, 0, 1, 2), gone} {
		s := built(t, r, cellsOf(1, 0, 1, 2), cellsOf(2, 0), cellsOf(2, 1), cellsOf(2, 2))
		was := s.b.Copy()
		for seq := range uint64(4) {
			wantOne(t, s, seq+1, api.ErrFailed)
		}
		wantUntouched(t, "Failed", s, was)
		wantLive(t, s, 1, 5)
	}
}

// Where a second one is found dead, that ends it: what stood ahead of it is written,
// nothing behind it.
func TestOneFindsTwoDead(t *testing.T) {
	for _, g := range []api.Geo{small, geo(5, 2)} {
		for one := range g.Members {
			for two := range g.Members {
				if two == one {
					continue
				}
				c := cellsOf(1, upTo(0, g.Members-1)...)
				s := built(t, losing(g, one), c)
				s.fail(t, two)
				wantOne(t, s, 1, api.ErrFailed)
				wantBlocks(t, s, without(c[:two], one)...)
				wantHull(t, s, api.Failed, 2)
				wantRecords(t, s, 1, c)
				wantOne(t, s, 1, api.ErrFailed)

				// A save that finds a dead one finds the other one, too.
				s = whole(t, g, c)
				s.fail(t, one, two)
				wantOne(t, s, 1, api.ErrFailed)
				wantBlocks(t, s, c[:min(one, two)]...)
				wantRecords(t, s, 1, c)
			}
		}
	}
}

// A hull whose event is the greatest goes one beyond it, where a member is found dead.
func TestOneOfTheGreatestEvent(t *testing.T) {
	s := whole(t, small, cellsOf(1, 0, 1, 2))
	h, e := hull.New(s.b, id, top, losing(small))
	wantOK(t, "hull.New", e)
	s.h = h
	wantOne(t, s, 1, api.OK)
	wantHull(t, s, api.Optimal, top)
	s.fail(t, 1)
	wantOne(t, s, 1, api.OK)
	wantHull(t, s, api.Degraded, top+1)
	wantBlocks(t, s, without(cellsOf(1, 0, 1, 2), 1)...)
	wantAll(t, s, 1, api.OK)
	wantHull(t, s, api.Degraded, top+1)
}

// The power is cut at each step: what was written are the first of the cells, in order;
// the log is as it was; in the dark all is refused; behind it all is written.
func TestOneCut(t *testing.T) {
	for _, g := range []api.Geo{small, geo(5, 2)} {
		for bits := 1; bits < 1<<g.Members; bits++ {
			c := append(backwards(cellsOf(1, chosen(bits, g.Members)...)), cellsOf(0, chosen(bits/2, g.Members)...)...)
			for cut := 1; cut <= len(c)+1; cut++ {
				s := whole(t, g, cellsOf(0, 1), c)
				was := s.b.Copy()
				s.arm(t, cut)
				if cut > len(c) {
					wantOne(t, s, 2, api.OK)
					wantBlocks(t, s, c...)
					continue
				}
				for range 2 {
					wantOne(t, s, 2, api.ErrPower)
					wantSteps(t, s, was.Steps()+cut-1)
					wantLive(t, s, 1, 3)
				}
				wantOK(t, "bench.Crash", s.b.Crash(keep()))
				wantBlocks(t, s, c[:cut-1]...)
				wantDevice(t, "the log", g.Members, s.b, was)
				wantRecords(t, s, 1, cellsOf(0, 1), c)
				wantOne(t, s, 2, api.OK)
				wantBlocks(t, s, c...)
			}
		}
	}
}

// The power is cut in the midst of what finds a member dead: behind it the record is
// done again, and the member is found dead then.
func TestOneCutWhereOneIsFoundDead(t *testing.T) {
	c := cellsOf(2, 0, 1, 2)
	for dead := range 3 {
		for cut := 1; cut <= 7; cut++ {
			for _, anew := range []bool{false, true} {
				s := whole(t, small, c)
				s.fail(t, dead)
				s.arm(t, cut)
				if cut == 7 { // Two are written, and two superblocks, and flushed.
					wantOne(t, s, 1, api.OK)
					continue
				}
				wantOne(t, s, 1, api.ErrPower)
				wantOK(t, "bench.Crash", s.b.Crash(nil))
				if anew {
					s.reopen(t)
				}
				wantOne(t, s, 1, api.OK)
				wantBlocks(t, s, without(c, dead)...)
				if s.h.State() != api.Degraded {
					t.Fatalf("State = %d", s.h.State())
				}
			}
		}
	}
}

// P23.2.

// Without records nothing is done: nothing is flushed, and no mark is written; also in
// the dark, of an array that is Failed, and of devices that are dead.
func TestAllOfNoRecords(t *testing.T) {
	for _, how := range []string{"laid", "cleared", "opened", "failed", "dark", "armed", "dead", "log dead"} {
		r := losing(small)
		if how == "failed" {
			r = losing(small, 0, 1)
		}
		s := built(t, r)
		if how == "cleared" || how == "opened" {
			s.append(t, cellsOf(0, 1), cellsOf(1, 1))
			wantOK(t, "log.Clear", s.l.Clear(3))
		}
		if how == "opened" {
			s.reopen(t)
		}
		if how != "failed" {
			wantOK(t, "hull.Write", s.h.Write(at(2, 2), some(5)))
		}
		switch how {
		case "dark":
			darken(t, s.b)
		case "armed":
			s.arm(t, 1)
		case "dead":
			s.fail(t, 0, 1, 2)
		case "log dead":
			s.fail(t, 3)
		}
		was := s.b.Copy()
		first, next := s.l.Live()
		for range 2 {
			wantAll(t, s, 0, api.OK)
		}
		wantUntouched(t, how, s, was)
		wantLive(t, s, first, next)
		if s.h.Event() != 1 {
			t.Fatalf("%s: Event = %d", how, s.h.Event())
		}
	}
}

// One record, several, as many as a log takes: how many there were; all is sure, nothing
// lives, and each step is taken once: the cells, the flushes, a mark and its flush.
func TestAllOfEachMany(t *testing.T) {
	for many := 1; many <= slots; many++ {
		for _, g := range []api.Geo{small, geo(5, 6), wide} {
			var records [][]api.Cell
			for n := range many {
				records = append(records, row(g, 1+(n+many)%4, n+1))
			}
			c := slices.Concat(records...)
			s := whole(t, g, records...)
			steps := s.b.Steps()
			wantAll(t, s, many, api.OK)
			wantSure(t, s, c...)
			wantBlocks(t, s, c...)
			wantSteps(t, s, steps+len(c)+g.Members+2)
			wantRecords(t, s, uint64(many+1))
			if s.l.Free() != g.Ring {
				t.Fatalf("Free = %d", s.l.Free())
			}
			for seq := range uint64(many + 2) {
				wantOne(t, s, seq, api.ErrNone)
			}
			was := s.b.Copy()
			wantAll(t, s, 0, api.OK)
			wantUntouched(t, "anew", s, was)
			s.reopen(t)
			wantLive(t, s, uint64(many+1), uint64(many+1))
			wantHull(t, s, api.Optimal, 1)
			wantOK(t, "bench.Crash", s.b.Crash(nil))
			wantBlocks(t, s, c...)
		}
	}
}

// The longest records, as many as the ring has room for.
func TestAllOfAFullRing(t *testing.T) {
	for _, lengths := range [][]int{{32}, {32, 4}, {16, 16, 4}, {3, 32}} {
		wantFull(t, geo(4, 9), lengths)
	}
	wantFull(t, wide, []int{32, 32, 32, 32, 32, 32, 32, 16})
}

func wantFull(t *testing.T, g api.Geo, lengths []int) {
	t.Helper()
	s := whole(t, g)
	var c []api.Cell
	for n, many := range lengths {
		s.append(t, row(g, many, n+1))
		c = append(c, row(g, many, n+1)...)
	}
	wantAll(t, s, len(lengths), api.OK)
	wantSure(t, s, c...)
	wantRecords(t, s, uint64(len(lengths)+1))
}

// They are done in order: of a place in several records the last one's stays, whatever
// the others are.
func TestAllInOrder(t *testing.T) {
	p, q := at(1, 2), at(3, 0)
	for bits := range 1 << 10 {
		var records [][]api.Cell
		for n := range 5 {
			var c []api.Cell
			if bits>>n&1 == 1 {
				c = append(c, cell(p, 100+n))
			}
			if bits>>(5+n)&1 == 1 {
				c = append(c, cell(q, 200+n))
			}
			records = append(records, append(c, cell(at(n%4, 1), 300-n)))
		}
		s := whole(t, small, records...)
		wantAll(t, s, 5, api.OK)
		wantSure(t, s, slices.Concat(records...)...)
	}
}

// What was cleared ahead of it is not done again, and is not counted.
func TestAllBehindAClear(t *testing.T) {
	records := [][]api.Cell{cellsOf(0, 0, 1), row(small, 6, 2), cellsOf(2, 2), row(small, 9, 4), cellsOf(1, 1)}
	for cleared := range 6 {
		for _, anew := range []bool{false, true} {
			s := whole(t, small, records...)
			wantOK(t, "log.Clear", s.l.Clear(uint64(1+cleared)))
			if anew {
				s.reopen(t)
			}
			wantAll(t, s, 5-cleared, api.OK)
			wantSure(t, s, slices.Concat(records[cleared:]...)...)
			wantLive(t, s, 6, 6)
		}
	}
}

// What was written ahead of it, by whatever, is made sure as well.
func TestAllMakesSureWhatWasWrittenAheadOfIt(t *testing.T) {
	s := whole(t, small, cellsOf(1, 0), cellsOf(2, 1))
	wantOK(t, "hull.Write", s.h.Write(at(3, 2), some(1)))
	wantOne(t, s, 2, api.OK)
	wantSure(t, s)
	wantAll(t, s, 2, api.OK)
	wantSure(t, s, append(append(cellsOf(1, 0), cellsOf(2, 1)...), cell(at(3, 2), 1))...)
}

// hurt is what is wrong of one record among others, and what is answered of it.
type hurt struct {
	name string
	do   func(t *testing.T, s *site, sector int)
	c    []api.Cell
	e    api.Errno
}

func hurts() []hurt {
	rot := func(by int) func(t *testing.T, s *site, sector int) {
		return func(t *testing.T, s *site, sector int) {
			t.Helper()
			wantOK(t, "bench.Rot", s.b.Rot(3, sector+by, 7, 3))
		}
	}
	none := func(*testing.T, *site, int) {}
	return []hurt{
		{"spoilt places", rot(0), cellsOf(3, 0, 1, 2), api.ErrSum},
		{"a spoilt block", rot(3), cellsOf(3, 0, 1, 2), api.ErrSum},
		{"no stripe", none, append(cellsOf(3, 0, 1), cell(at(4, 0), 1)), api.ErrForm},
		{"no member", none, append([]api.Cell{cell(at(0, 3), 1)}, cellsOf(3, 0, 1)...), api.ErrForm},
	}
}

// An error in the first record, in one in the midst, in the last one: none are counted,
// those ahead of it are written, but not made sure, and nothing of it and behind it is;
// all of the log still lives.
func TestAllOfARecordThatIsWrong(t *testing.T) {
	for _, x := range hurts() {
		for many := 1; many <= 5; many++ {
			for wrong := range many {
				var records [][]api.Cell
				for n := range many {
					records = append(records, cellsOf(n%3, n%3))
				}
				records[wrong] = x.c
				s := whole(t, small, records...)
				x.do(t, s, ringAt+2*wrong)
				was := s.b.Copy()
				for range 2 {
					wantAll(t, s, 0, x.e)
					wantBlocks(t, s, slices.Concat(records[:wrong]...)...)
					wantSure(t, s)
					wantDevice(t, x.name, 3, s.b, was)
					wantLive(t, s, 1, uint64(many+1))
				}
				wantSteps(t, s, was.Steps()+2*wrong)
				wantOne(t, s, uint64(wrong+1), x.e)
				s.reopen(t)
				wantAll(t, s, 0, x.e)
				wantLive(t, s, 1, uint64(many+1))
			}
		}
	}
}

// Where the wrong one is let go, the others are done.
func TestAllBehindARecordThatIsWrong(t *testing.T) {
	s := whole(t, small, append(cellsOf(3, 0), cell(at(9, 9), 1)), cellsOf(1, 1), cellsOf(2, 2))
	wantAll(t, s, 0, api.ErrForm)
	wantOK(t, "log.Clear", s.l.Clear(2))
	wantAll(t, s, 2, api.OK)
	wantSure(t, s, append(cellsOf(1, 1), cellsOf(2, 2)...)...)
}

// A record that may not be, though its sum is right, ends it likewise.
func TestAllOfAnOddRecord(t *testing.T) {
	for _, l := range odd(t) {
		for wrong := range 3 {
			s := whole(t, small)
			entries := []entry{entryOf(t, cellsOf(0, 0)), entryOf(t, cellsOf(2, 1)), entryOf(t, cellsOf(3, 2))}
			entries[wrong] = l
			s.forge(t, 5, 7, 11, entries...)
			wantAll(t, s, 0, api.ErrForm)
			wantBlocks(t, s, append(cellsOf(0, 0), cellsOf(2, 1)...)[:min(wrong, 2)]...)
			wantSure(t, s)
			wantLive(t, s, 7, 10)
		}
	}
}

// A log's device that is dead: nothing is written, and all of it still lives.
func TestAllOfADeadLog(t *testing.T) {
	s := whole(t, small, cellsOf(1, 0, 1), cellsOf(2, 2))
	s.fail(t, 3)
	was := s.b.Copy()
	wantAll(t, s, 0, api.ErrDead)
	wantUntouched(t, "a dead log", s, was)
	wantLive(t, s, 1, 3)
}

// In the dark nothing is done, and all of the log still lives.
func TestAllInTheDark(t *testing.T) {
	s := whole(t, small, cellsOf(1, 0, 1), cellsOf(2, 2))
	darken(t, s.b)
	was := s.b.Copy()
	wantAll(t, s, 0, api.ErrPower)
	wantUntouched(t, "dark", s, was)
	wantLive(t, s, 1, 3)
	wantOK(t, "bench.Crash", s.b.Crash(nil))
	wantAll(t, s, 2, api.OK)
	wantSure(t, s, append(cellsOf(1, 0, 1), cellsOf(2, 2)...)...)
}

// Where log and hull have benches of their own: an error of the flush in the dark, and
// one of the clearing.
func TestAllOfTwoBenches(t *testing.T) {
	c := cellsOf(1, 0, 1, 2)
	s, lone := apart(t, losing(small), c)
	wantAll(t, s, 1, api.OK)
	wantSure(t, s, c...)
	wantLive(t, s, 2, 2)

	for cut := 1; cut <= 2; cut++ { // the mark, its flush
		s, lone = apart(t, losing(small), c)
		was := s.b.Steps()
		wantOK(t, "bench.Arm", lone.Arm(cut))
		wantAll(t, s, 0, api.ErrPower)
		wantSteps(t, s, was+6)
		wantSure(t, s, c...)
		wantLive(t, s, 1, 2)
		wantOK(t, "bench.Crash", lone.Crash(nil))
		wantAll(t, s, 1, api.OK)
		wantLive(t, s, 2, 2)
	}
	for cut := 1; cut <= 6; cut++ { // three cells, three flushes
		s, lone = apart(t, losing(small), c)
		was := lone.Copy()
		s.arm(t, cut)
		wantAll(t, s, 0, api.ErrPower)
		wantSame(t, "the log", lone, was)
		wantLive(t, s, 1, 2)
		wantOK(t, "bench.Crash", s.b.Crash(nil))
		wantAll(t, s, 1, api.OK)
		wantSure(t, s, c...)
	}
	// A log of which nothing is written but upon a member that is lost: the flush says so.
	s, lone = apart(t, losing(small, 1), cellsOf(1, 1))
	was := lone.Copy()
	darken(t, s.b)
	wantAll(t, s, 0, api.ErrPower)
	wantSame(t, "the log", lone, was)
	wantLive(t, s, 1, 2)
}

// Of an array that is Failed nothing is done, and all of the log still lives.
func TestAllOfAFailedArray(t *testing.T) {
	for _, lost := range [][]int{{0, 1}, {1, 2}, {0, 1, 2}} {
		s := built(t, losing(small, lost...), cellsOf(1, 2), cellsOf(2, 0))
		was := s.b.Copy()
		wantAll(t, s, 0, api.ErrFailed)
		wantUntouched(t, "Failed", s, was)
		wantLive(t, s, 1, 3)
	}
}

// A second member is found dead in the first record, in one in the midst, in the last
// one: those ahead of it are written, nothing behind it, and all of the log still lives.
func TestAllFindsTwoDead(t *testing.T) {
	for many := 1; many <= 5; many++ {
		for where := range many {
			for dead := range 2 {
				var records [][]api.Cell
				for n := range many {
					records = append(records, []api.Cell{cell(at(n%4, 1-dead), n), cell(at(n%4, 2), n)})
				}
				records[where] = []api.Cell{cell(at(1, 1-dead), 50), cell(at(2, dead), 51), cell(at(2, 1-dead), 52)}
				s := built(t, losing(small, 2), records...)
				s.fail(t, dead)
				was := s.b.Copy()
				wantAll(t, s, 0, api.ErrFailed)
				written := append(slices.Concat(records[:where]...), records[where][0])
				wantBlocks(t, s, without(written, 2)...)
				wantDevice(t, "the log", 3, s.b, was)
				wantLive(t, s, 1, uint64(many+1))
				wantHull(t, s, api.Failed, 2)
				wantAll(t, s, 0, api.ErrFailed)
				wantLive(t, s, 1, uint64(many+1))
			}
		}
	}
}

// An error of the flush: all is written, and sure upon those that are there still; all
// of the log still lives.
func TestAllWhoseFlushFails(t *testing.T) {
	g := geo(4, 3)
	for lost := range 4 {
		for dead := range 4 {
			if dead == lost {
				continue
			}
			there := slices.DeleteFunc(upTo(0, 3), func(m int) bool { return m == lost || m == dead })
			records := [][]api.Cell{cellsOf(0, there...), cellsOf(2, there[0])}
			s := built(t, losing(g, lost), records...)
			s.fail(t, dead)
			was := s.b.Copy()
			wantAll(t, s, 0, api.ErrFailed)
			wantSure(t, s, slices.Concat(records...)...)
			wantDevice(t, "the log", 4, s.b, was)
			wantRecords(t, s, 1, records...)
			wantHull(t, s, api.Failed, 2)
		}
	}
}

// A member that is lost ahead of it takes nothing, be its device dead or there.
func TestAllOfOneLost(t *testing.T) {
	for _, g := range []api.Geo{small, geo(5, 4)} {
		for lost := range g.Members {
			for _, dead := range []bool{false, true} {
				records := [][]api.Cell{row(g, 9, 1), cellsOf(3, lost), row(g, 7, 3)}
				s := built(t, losing(g, lost), records...)
				if dead {
					s.fail(t, lost)
				}
				c := without(slices.Concat(records...), lost)
				steps := s.b.Steps()
				wantAll(t, s, 3, api.OK)
				wantSure(t, s, c...)
				wantSteps(t, s, steps+len(c)+g.Members-1+2)
				wantLive(t, s, 4, 4)
				wantHull(t, s, api.Degraded, 1)
			}
		}
	}
}

// A member that is dead is found dead by a cell of the first record, of one in the midst,
// of the last one, or by the flush alone: the others have it all, for sure.
func TestAllFindsOneDead(t *testing.T) {
	for dead := range 3 {
		for bits := range 1 << 3 {
			var records [][]api.Cell
			for n := range 3 {
				c := cellsOf(n, (dead+1)%3, (dead+2)%3)
				if bits>>n&1 == 1 {
					c = append(cellsOf(n, dead), c...)
				}
				records = append(records, c)
			}
			s := whole(t, small, records...)
			s.fail(t, dead)
			wantAll(t, s, 3, api.OK)
			wantSure(t, s, without(slices.Concat(records...), dead)...)
			wantLive(t, s, 4, 4)
			wantHull(t, s, api.Degraded, 2)
		}
	}
}

// A member that heals has what is below its cursor, for sure, and nothing else.
func TestAllOfOneThatHeals(t *testing.T) {
	g := geo(4, 6)
	for heals := range 4 {
		for cursor := range 6 {
			var records [][]api.Cell
			var written []api.Cell
			for stripe := range 6 {
				l := cellsOf(stripe, 3, 1, 2, 0)
				records = append(records, l)
				if stripe >= cursor {
					l = without(l, heals)
				}
				written = append(written, l...)
			}
			s := built(t, healing(g, heals, cursor), records...)
			wantAll(t, s, 6, api.OK)
			wantSure(t, s, written...)
			wantLive(t, s, 7, 7)
			if s.h.Roster() != healing(g, heals, cursor) {
				t.Fatalf("Roster = %v", s.h.Roster())
			}
		}
	}
}

// One by one, each as it stands when its turn comes: a log that stands on a member, of
// whose records the first writes over the next one's sectors.
func TestAllReadsEachInItsTurn(t *testing.T) {
	g := geo(3, 60)
	records := [][]api.Cell{
		{cell(at(3, 1), 1)},
		{cell(at(5, 2), 2), cell(at(ringAt-supers+6, 0), 3)}, // there the block of the next one stands
		{cell(at(7, 1), 4)},
		{cell(at(8, 1), 5)},
	}
	lay := func() *site {
		s := whole(t, g)
		l, e := log.Lay(s.b, 0, id, 40)
		wantOK(t, "log.Lay", e)
		s.l = l
		s.append(t, records...)
		return s
	}
	s := lay()
	if x, e := s.b.Read(0, ringAt+6); x != records[2][0].B || e != api.OK {
		t.Fatalf("Read = %x, %d", x, e)
	}
	wantAll(t, s, 0, api.ErrSum)
	for i, want := range []bool{true, true, false, false} {
		p := records[i][0].Place
		if x, e := s.b.Read(p.Member, supers+p.Stripe); (x == records[i][0].B) != want || e != api.OK {
			t.Fatalf("the record %d: Read = %x, %d", i+1, x, e)
		}
	}
	wantLive(t, s, 1, 5)
	// A record that writes over itself was read ahead of that.
	s = lay()
	wantOK(t, "log.Clear", s.l.Clear(5))
	s.append(t, []api.Cell{cell(at(ringAt-supers+9, 0), 6), cell(at(ringAt-supers+10, 0), 7), cell(at(9, 2), 8)})
	wantOne(t, s, 5, api.OK)
	if x, e := s.b.Read(2, supers+9); x != some(8) || e != api.OK {
		t.Fatalf("Read = %x, %d", x, e)
	}
	wantOne(t, s, 5, api.ErrSum)
}

// A log behind a long history, whose ring has gone round many times.
func TestAllBehindALongHistory(t *testing.T) {
	for _, g := range []api.Geo{small, geo(5, 9), wide} {
		roll := dice(g.Members)
		s := whole(t, g)
		var all []api.Cell
		seq := uint64(1)
		for round := range 200 {
			many := 1 + roll(3)
			for range many {
				c := drawn(g, 1+roll(10), roll)
				s.append(t, c)
				all = append(all, c...)
			}
			if roll(8) == 0 {
				s.reopen(t)
			}
			wantLive(t, s, seq, seq+uint64(many))
			wantAll(t, s, many, api.OK)
			seq += uint64(many)
			wantLive(t, s, seq, seq)
			if round%20 == 19 {
				wantSure(t, s, all...)
			}
		}
	}
}

// drawn are so many cells at any places of a geometry.
func drawn(g api.Geo, many int, roll func(int) int) []api.Cell {
	var c []api.Cell
	for range many {
		c = append(c, cell(at(roll(g.Stripes), roll(g.Members)), roll(1_000_000)))
	}
	return c
}

// The greatest numbers that a log is opened with: what lives there is done, and what
// comes behind them.
func TestAllOfTheGreatestNumbers(t *testing.T) {
	for _, n := range [][3]uint64{{top, top, top}, {top - 1, 1, top}, {2, top, 0}, {top, top - 7, 39}, {1, 1 << 32, 1 << 32}, {7, 1<<32 - 2, 1<<32 - 3}} {
		records := [][]api.Cell{row(small, 3, 1), row(small, 2, 2), row(small, 5, 3)}
		s := whole(t, small)
		s.forge(t, n[0], n[1], n[2], entryOf(t, records[0]), entryOf(t, records[1]), entryOf(t, records[2]))
		first := n[1]
		wantOne(t, s, first-1, api.ErrNone)
		wantOne(t, s, first+3, api.ErrNone)
		wantOne(t, s, first+1, api.OK)
		wantBlocks(t, s, records[1]...)
		wantAll(t, s, 3, api.OK)
		wantSure(t, s, slices.Concat(records...)...)
		wantRecords(t, s, first+3)
		s.append(t, cellsOf(2, 1))
		wantAll(t, s, 1, api.OK)
		wantSure(t, s, append(slices.Concat(records...), cellsOf(2, 1)...)...)
		wantRecords(t, s, first+4)
	}
}

// P23.3.

// history is some records, of which many write the same places.
func history() [][]api.Cell {
	return [][]api.Cell{
		{cell(at(0, 0), 1), cell(at(0, 2), 2)},
		{cell(at(1, 1), 3), cell(at(0, 0), 4), cell(at(1, 1), 5)},
		{cell(at(0, 2), 6), cell(at(3, 1), 7)},
		{cell(at(1, 1), 8)},
	}
}

// situations are rosters of the small geometry, each of them not Failed.
func situations() []api.Roster {
	l := []api.Roster{losing(small)}
	for m := range 3 {
		l = append(l, losing(small, m), healing(small, m, 0), healing(small, m, 1), healing(small, m, 2))
	}
	return l
}

// atOnce is what a site comes to by one All.
func atOnce(t *testing.T, r api.Roster) *site {
	t.Helper()
	s := built(t, r, history()...)
	wantAll(t, s, 4, api.OK)
	return s
}

// Done twice, or in part, or out of order ahead of it, with the power cut between or
// not: all of the bench comes to the same.
func TestAllBehindAPart(t *testing.T) {
	for _, r := range situations() {
		once := atOnce(t, r)
		for _, part := range [][]uint64{{}, {1}, {1, 1}, {1, 2}, {1, 2, 3}, {1, 2, 3, 4}, {1, 2, 3, 4, 1, 2, 3, 4}, {1, 2, 1, 2}, {4}, {4, 3, 2, 1}, {3, 1}} {
			for _, picks := range [][]int{nil, keep(), slices.Repeat([]int{13, 0, 64}, 9)} {
				for _, cut := range []bool{false, true} {
					s := built(t, r, history()...)
					for _, seq := range part {
						wantOne(t, s, seq, api.OK)
					}
					if cut {
						wantOK(t, "bench.Crash", s.b.Crash(picks))
						s.reopen(t)
					}
					wantRecords(t, s, 1, history()...)
					wantAll(t, s, 4, api.OK)
					wantSame(t, "behind a part", s.b, once.b)
					wantAll(t, s, 0, api.OK)
					wantSame(t, "twice", s.b, once.b)
					wantLive(t, s, 5, 5)
				}
			}
		}
	}
}

// One done twice comes to the same as once, also with the power cut in its midst.
func TestOneTwice(t *testing.T) {
	for _, r := range situations() {
		for seq := uint64(1); seq <= 4; seq++ {
			once := built(t, r, history()...)
			wantOne(t, once, seq, api.OK)
			for cut := range 4 {
				s := built(t, r, history()...)
				s.arm(t, cut)
				if e := replay.One(s.l, s.h, seq); e != api.OK {
					want(t, "One", e, api.ErrPower)
					wantOK(t, "bench.Crash", s.b.Crash(nil))
					s.reopen(t)
				}
				s.arm(t, 0)
				wantOne(t, s, seq, api.OK)
				wantSame(t, "twice", s.b, once.b)
				wantOne(t, s, seq, api.OK)
				wantSame(t, "thrice", s.b, once.b)
			}
		}
	}
}

// choices are what may be kept of what is not sure when the power is cut.
func choices(seed int) [][]int {
	roll := dice(seed)
	l := [][]int{nil, keep(), slices.Repeat([]int{31}, 99), slices.Repeat([]int{0, 64}, 99), slices.Repeat([]int{64, 0}, 99)}
	for range 3 {
		var picks []int
		for range 40 {
			picks = append(picks, []int{0, 64, 1 + roll(63)}[roll(3)])
		}
		l = append(l, picks)
	}
	return l
}

// wantMidway says what is there behind an All that was cut at a step, of cells that are
// written by themselves: the first of them are written; nothing is sure ahead of the
// flush, then member by member; the log is as it was up to the last step, at which its
// mark is written, but not sure.
func wantMidway(t *testing.T, s *site, was *bench.Bench, cut int, c []api.Cell) {
	t.Helper()
	wantSteps(t, s, was.Steps()+cut-1)
	wantLive(t, s, 1, 5)
	flushed := cut - 1 - len(c)
	there := slices.DeleteFunc(upTo(0, s.g.Members-1), func(m int) bool { return s.h.Roster().States[m] == api.Lost })
	wantSure(t, s, slices.DeleteFunc(slices.Clone(c), func(x api.Cell) bool { return slices.Index(there, x.Place.Member) >= flushed })...)
	full := keptAll(t, s.b)
	wantBlocks(t, &site{g: s.g, b: full}, c[:min(cut-1, len(c))]...)
	lasts := cut == len(c)+len(there)+2
	for n := range s.b.Sectors(s.g.Members) {
		if x, e := full.Read(s.g.Members, n); (x == sector(was, s.g.Members, n)[0]) == (lasts && n == 0) || e != api.OK {
			t.Fatalf("cut at %d: the log's sector %d: %x", cut, n, x)
		}
	}
}

// reaches are the cells that are written, in order, of members as a roster says.
func reaches(r api.Roster, c []api.Cell) []api.Cell {
	return slices.DeleteFunc(slices.Clone(c), func(x api.Cell) bool { return !roster.Has(r, x.Place.Member, x.Place.Stripe) })
}

// The power is cut at each step, whatever is kept, and torn: the log lives as it did, or
// not at all, where that was all but done; opened anew and done again, with the power
// cut anew or not, it comes to the same as at once.
func TestAllCut(t *testing.T) {
	for _, r := range situations() {
		once := atOnce(t, r)
		c := reaches(r, slices.Concat(history()...))
		steps := len(c) + 3 - len(chosen(lostBits(r), 3)) + 2
		for cut := 1; cut <= steps; cut++ {
			for _, picks := range choices(cut) {
				s := built(t, r, history()...)
				was := s.b.Copy()
				s.arm(t, cut)
				wantAll(t, s, 0, api.ErrPower)
				wantMidway(t, s, was, cut, c)
				wantAll(t, s, 0, api.ErrPower)
				wantOK(t, "bench.Crash", s.b.Crash(picks))
				s.reopen(t)
				wantDoneAgain(t, s, once, cut == steps, picks)
			}
		}
		s := built(t, r, history()...)
		s.arm(t, steps+1)
		wantAll(t, s, 4, api.OK)
	}
}

// lostBits has a bit for each member that is lost.
func lostBits(r api.Roster) int {
	bits := 0
	for m := range r.Geo.Members {
		if r.States[m] == api.Lost {
			bits |= 1 << m
		}
	}
	return bits
}

// left is how many records live behind a cut: all, or none, where the cut may have been
// at the last step.
func left(t *testing.T, s *site, last bool) int {
	t.Helper()
	if first, next := s.l.Live(); last && first == 5 && next == 5 {
		return 0
	}
	wantRecords(t, s, 1, history()...)
	return 4
}

// wantDoneAgain says that all comes to the same behind a cut, also with a second one.
func wantDoneAgain(t *testing.T, s, once *site, last bool, picks []int) {
	t.Helper()
	many := left(t, s, last)
	for _, second := range []int{1, 3, 8, 11} {
		s := &site{g: s.g, b: s.b.Copy()}
		s.reopen(t)
		s.arm(t, second)
		if n, e := replay.All(s.l, s.h); e != api.OK {
			if n != 0 || e != api.ErrPower {
				t.Fatalf("All = %d, %d", n, e)
			}
			wantOK(t, "bench.Crash", s.b.Crash(picks))
			s.reopen(t)
			wantAll(t, s, left(t, s, true), api.OK)
		}
		wantSame(t, "behind two cuts", s.b, once.b)
	}
	wantAll(t, s, many, api.OK)
	wantSame(t, "behind a cut", s.b, once.b)
	wantLive(t, s, 5, 5)
}

// The same log and hull, that were not opened anew, do it again as well.
func TestAllCutAndDoneAgain(t *testing.T) {
	once := atOnce(t, losing(small))
	for cut := 1; cut <= 13; cut++ {
		for _, picks := range choices(cut) {
			s := built(t, losing(small), history()...)
			s.arm(t, cut)
			wantAll(t, s, 0, api.ErrPower)
			wantOK(t, "bench.Crash", s.b.Crash(picks))
			wantAll(t, s, 4, api.OK)
			wantSame(t, "behind a cut", s.b, once.b)
		}
	}
}

// A member fails, ahead of it or behind some of the records, and the power is cut at each
// step, also of what finds it dead, and once more behind that: the others have it all.
func TestAllWithOneThatFailsInItsMidst(t *testing.T) {
	c := slices.Concat(history()...)
	for dead := range 3 {
		for ahead := range uint64(5) {
			for cut := range 22 {
				for _, anew := range []bool{false, true} {
					s := whole(t, small, history()...)
					for seq := range ahead {
						wantOne(t, s, seq+1, api.OK)
					}
					s.fail(t, dead)
					for _, step := range []int{cut, cut / 2, 0} {
						if !doneUpTo(t, s, step, anew) {
							continue
						}
						wantSure(t, s, without(c, dead)...)
						wantLive(t, s, 5, 5)
						if s.h.State() != api.Degraded {
							t.Fatalf("State = %d", s.h.State())
						}
					}
				}
			}
		}
	}
}

// doneUpTo is an All with the power cut at a step, and whether it came to its end ahead
// of that; if not, there is power again.
func doneUpTo(t *testing.T, s *site, step int, anew bool) bool {
	t.Helper()
	s.arm(t, step)
	first, next := s.l.Live()
	many, e := replay.All(s.l, s.h)
	if e == api.OK {
		if many != int(next-first) {
			t.Fatalf("All = %d, want %d", many, next-first)
		}
		return true
	}
	want(t, "All", e, api.ErrPower)
	wantLive(t, s, first, next)
	if many != 0 {
		t.Fatalf("All = %d beside an error", many)
	}
	wantOK(t, "bench.Crash", s.b.Crash(choices(step)[step%8]))
	if anew {
		s.reopen(t)
	}
	return false
}

// The document's words, over a twin that is given the same.

// twins are a site, and another one that is given the same, by the document's words.
type twins struct {
	a, b *site
	l    []string // what was done
}

// one is One by the words.
func (s *site) one(seq uint64) api.Errno {
	c, e := s.l.Record(seq)
	if e != api.OK {
		return e
	}
	for _, x := range c {
		if x.Place.Stripe >= s.g.Stripes || x.Place.Member >= s.g.Members {
			return api.ErrForm
		}
	}
	for i := range c {
		if e := s.h.Write(c[i].Place, c[i].B); e != api.OK {
			return e
		}
	}
	return api.OK
}

// all is All by the words.
func (s *site) all() (int, api.Errno) {
	first, next := s.l.Live()
	many := int(next - first)
	for n := range many {
		if e := s.one(first + uint64(n)); e != api.OK {
			return 0, e
		}
	}
	if many > 0 {
		if e := s.h.Flush(); e != api.OK {
			return 0, e
		}
		if e := s.l.Clear(next); e != api.OK {
			return 0, e
		}
	}
	return many, api.OK
}

// alike says that both are the same.
func (w *twins) alike(t *testing.T) {
	t.Helper()
	what := "behind " + strconv.Quote(w.l[len(w.l)-1])
	wantSame(t, what, w.a.b, w.b.b)
	wantSteps(t, w.a, w.b.b.Steps())
	wantHull(t, w.a, w.b.h.State(), w.b.h.Event())
	first, next := w.b.l.Live()
	wantLive(t, w.a, first, next)
	if w.a.h.Roster() != w.b.h.Roster() || w.a.l.Free() != w.b.l.Free() {
		t.Fatalf("%s: Roster, Free = %v, %d, want %v, %d", what, w.a.h.Roster(), w.a.l.Free(), w.b.h.Roster(), w.b.l.Free())
	}
}

// upset is something that comes from without, now and then.
func (w *twins) upset(t *testing.T, roll func(int) int) {
	t.Helper()
	what, m, stripe, n, x := roll(60), roll(w.a.g.Members), roll(w.a.g.Stripes), roll(size), some(roll(1000))
	for _, s := range []*site{w.a, w.b} {
		switch what {
		case 0:
			s.b.Fail(m)
		case 1, 2, 3:
			s.b.Arm(1 + n%15)
		case 4, 5, 6:
			s.b.Crash([]int{n, 2 * n, 64, 0, 64, n})
		case 7:
			s.b.Rot(s.g.Members, ringAt+n%s.g.Ring, n, 1)
		case 8:
			s.h.Write(at(stripe, m), x)
		case 9, 10, 11, 12:
			s.b.Insert(m)
			s.h.Begin(m)
		case 13, 14, 15, 16, 17, 18, 19, 20:
			s.h.Fill(x)
		case 21:
			s.h.Gone(n < 8)
		case 22:
			if n < 4 {
				s.b.Fail(s.g.Members)
			}
		case 23, 24:
			first, next := s.l.Live()
			s.l.Clear(min(first+uint64(n%3), next))
		case 25, 26:
			if l, e := log.Open(s.b, s.g.Members); e == api.OK {
				s.l = l
			}
		}
	}
}

// act is one call of any kind.
func (w *twins) act(t *testing.T, roll func(int) int) {
	t.Helper()
	switch kind := roll(20); {
	case kind < 9:
		w.l = append(w.l, "Append")
		c := drawn(w.a.g, 1+roll(5), roll)
		if roll(30) == 0 {
			c[0].Place = at(w.a.g.Stripes%64, w.a.g.Members%16)
		}
		_, e := w.a.l.Append(c)
		_, f := w.b.l.Append(c)
		want(t, "log.Append", e, f)
	case kind < 16:
		first, next := w.a.l.Live()
		seq := first + uint64(roll(int(next-first)+2))
		if roll(10) == 0 {
			seq = first - 1
		}
		w.l = append(w.l, "One "+strconv.FormatUint(seq, 10))
		wantOne(t, w.a, seq, w.b.one(seq))
	default:
		w.l = append(w.l, "All")
		many, e := w.b.all()
		wantAll(t, w.a, many, e)
	}
}

// Long rows of calls, with members and logs that fail, records that are spoilt, and the
// power that is cut, between them and in their midst.
func TestRows(t *testing.T) {
	for seed := range 300 {
		roll := dice(seed)
		g := geo(3+roll(4), 1+roll(9))
		w := &twins{a: whole(t, g), b: whole(t, g)}
		for range 80 {
			if seed%4 > 0 {
				w.upset(t, roll)
			}
			w.act(t, roll)
			w.alike(t)
		}
	}
}

// Records at any places, cut at any steps, again and again: at last all is there that
// was appended for sure, in order.
func TestAgainAndAgain(t *testing.T) {
	for seed := range 400 {
		roll := dice(seed)
		g := geo(3+roll(4), 1+roll(9))
		s := whole(t, g)
		var all []api.Cell
		for range 6 {
			var records [][]api.Cell
			for range 1 + roll(4) {
				records = append(records, drawn(g, 1+roll(6), roll))
			}
			s.append(t, records...)
			all = append(all, slices.Concat(records...)...)
			first, next := s.l.Live()
			for {
				s.arm(t, roll(40))
				n, e := replay.All(s.l, s.h)
				if e == api.OK {
					if n != len(records) && n != 0 {
						t.Fatalf("All = %d, want %d", n, len(records))
					}
					break
				}
				want(t, "All", e, api.ErrPower)
				wantLive(t, s, first, next)
				wantOK(t, "bench.Crash", s.b.Crash(choices(roll(1000))[roll(8)]))
				s.reopen(t)
			}
			s.arm(t, 0)
			wantLive(t, s, next, next)
			wantSure(t, s, all...)
		}
	}
}

// The rules that hold everywhere.

// What a call answers hangs on what its log and hull were given alone: those beside it
// are as if they were not, and stay as they are.
func TestApart(t *testing.T) {
	a, b := whole(t, small, cellsOf(1, 0, 1)), whole(t, small, cellsOf(2, 2), cellsOf(3, 0))
	was := b.b.Copy()
	wantOne(t, a, 1, api.OK)
	wantAll(t, a, 1, api.OK)
	wantUntouched(t, "the other one", b, was)
	wantRecords(t, b, 1, cellsOf(2, 2), cellsOf(3, 0))
	was = a.b.Copy()
	wantAll(t, b, 2, api.OK)
	wantUntouched(t, "the first one", a, was)
	wantLive(t, a, 2, 2)
	wantSure(t, b, append(cellsOf(2, 2), cellsOf(3, 0)...)...)
}
