package geom_test

import (
	"slices"
	"testing"

	"ashlar/api"
	"ashlar/geom"
)

const (
	top    = int(^uint(0) >> 1)
	bottom = -top - 1
)

// The document's numbers, written out, so that a limit that is asked wrongly is told.
const (
	minMembers = 3
	maxMembers = 16
	maxStripes = 64
	minRing    = 40
	maxRing    = 256
)

// small is the geometry of the chapter's examples.
var small = api.Geo{Members: 3, Stripes: 4, Ring: 40}

// far are numbers far beyond what anything counts, on both sides.
func far() []int {
	return []int{bottom, bottom + 1, bottom / 2, -1 << 32, -1 << 31, -1000, 1000, 1 << 31, 1 << 32, top / 2, top - 1, top}
}

// beyond are the numbers next to those from 0 to below many, on both sides, and far ones.
func beyond(many int) []int {
	return append(far(), -many-1, -many, -2, -1, many, many+1, many+2, 2*many)
}

// all are the geometries of all members and stripes that may be.
func all() []api.Geo {
	var l []api.Geo
	for members := minMembers; members <= maxMembers; members++ {
		for stripes := 1; stripes <= maxStripes; stripes++ {
			l = append(l, api.Geo{Members: members, Stripes: stripes, Ring: minRing + (members*stripes)%(maxRing-minRing+1)})
		}
	}
	return l
}

// edges are the geometries at each limit, and next to it, and some others.
func edges() []api.Geo {
	var l []api.Geo
	for _, members := range []int{minMembers, minMembers + 1, 7, maxMembers - 1, maxMembers} {
		for _, stripes := range []int{1, 2, members - 1, members, members + 1, 2 * members, maxStripes - 1, maxStripes} {
			for _, ring := range []int{minRing, minRing + 1, 100, maxRing - 1, maxRing} {
				if stripes <= maxStripes {
					l = append(l, api.Geo{Members: members, Stripes: stripes, Ring: ring})
				}
			}
		}
	}
	return l
}

// wrong are geometries that may not be: one member of theirs, two, or all are beyond.
func wrong() []api.Geo {
	members := append(far(), -16, -3, -1, 0, 1, 2, 17, 18, 32)
	stripes := append(far(), -64, -4, -1, 0, 65, 66, 128)
	rings := append(far(), -256, -40, -1, 0, 1, 39, 257, 258)
	l := []api.Geo{{}, {Members: 3}, {Stripes: 4}, {Ring: 40}, {Members: 3, Stripes: 4}, {Members: 3, Ring: 40}, {Stripes: 4, Ring: 40}, {Members: 40, Stripes: 4, Ring: 3}, {Members: 4, Stripes: 40, Ring: 3}}
	for _, g := range []api.Geo{small, {Members: 3, Stripes: 1, Ring: 40}, {Members: 16, Stripes: 64, Ring: 256}} {
		for _, m := range members {
			l = append(l, api.Geo{Members: m, Stripes: g.Stripes, Ring: g.Ring}, api.Geo{Members: m, Stripes: m, Ring: g.Ring})
		}
		for _, s := range stripes {
			l = append(l, api.Geo{Members: g.Members, Stripes: s, Ring: g.Ring}, api.Geo{Members: g.Members, Stripes: s, Ring: s})
		}
		for _, r := range rings {
			l = append(l, api.Geo{Members: g.Members, Stripes: g.Stripes, Ring: r})
		}
	}
	for _, n := range append(far(), -1, 0) {
		l = append(l, api.Geo{Members: n, Stripes: n, Ring: n})
	}
	return l
}

// row is a stripe as the document's words lay it: the member of the parity, and those of the data.
type row struct {
	parity int
	data   []int
}

// rows lays so many stripes, one behind the other, by steps of one alone: the
// parity goes one member down with each stripe, and from member 0 to the last one.
func rows(members, stripes int) []row {
	var l []row
	parity := members - 1
	for range stripes {
		r := row{parity: parity}
		m := parity
		for range members - 1 {
			m++
			if m == members {
				m = 0
			}
			r.data = append(r.data, m)
		}
		l = append(l, r)
		parity--
		if parity < 0 {
			parity = members - 1
		}
	}
	return l
}

// places are those of all blocks of a geometry, in their order.
func places(g api.Geo) []api.Place {
	var l []api.Place
	for stripe, r := range rows(g.Members, g.Stripes) {
		for _, m := range r.data {
			l = append(l, api.Place{Stripe: stripe, Member: m})
		}
	}
	return l
}

func wantMay(t *testing.T, g api.Geo, may bool) {
	t.Helper()
	if got := geom.May(g); got != may {
		t.Errorf("May(%v) = %v", g, got)
	}
}

func wantBlocks(t *testing.T, g api.Geo, want int) {
	t.Helper()
	if got := geom.Blocks(g); got != want {
		t.Errorf("Blocks(%v) = %d; want %d", g, got, want)
	}
}

func wantAt(t *testing.T, g api.Geo, block int, want api.Place, wantE api.Errno) {
	t.Helper()
	if p, e := geom.At(g, block); p != want || e != wantE {
		t.Errorf("At(%v, %d) = %v, %v; want %v, %v", g, block, p, e, want, wantE)
	}
}

func wantBlock(t *testing.T, g api.Geo, p api.Place, want int, wantE api.Errno) {
	t.Helper()
	if n, e := geom.Block(g, p); n != want || e != wantE {
		t.Errorf("Block(%v, %v) = %d, %v; want %d, %v", g, p, n, e, want, wantE)
	}
}

func wantParity(t *testing.T, g api.Geo, stripe, want int, wantE api.Errno) {
	t.Helper()
	if m, e := geom.Parity(g, stripe); m != want || e != wantE {
		t.Errorf("Parity(%v, %d) = %d, %v; want %d, %v", g, stripe, m, e, want, wantE)
	}
}

func wantData(t *testing.T, g api.Geo, stripe int, want []int, wantE api.Errno) {
	t.Helper()
	if l, e := geom.Data(g, stripe); !slices.Equal(l, want) || e != wantE {
		t.Errorf("Data(%v, %d) = %v, %v; want %v, %v", g, stripe, l, e, want, wantE)
	}
}

func wantSector(t *testing.T, stripe, want int, wantE api.Errno) {
	t.Helper()
	if n, e := geom.Sector(stripe); n != want || e != wantE {
		t.Errorf("Sector(%d) = %d, %v; want %d, %v", stripe, n, e, want, wantE)
	}
}

func TestExamples(t *testing.T) {
	wantBlocks(t, small, 8)
	wantParity(t, small, 0, 2, api.OK)
	wantParity(t, small, 1, 1, api.OK)
	wantParity(t, small, 3, 2, api.OK)
	wantData(t, small, 0, []int{0, 1}, api.OK)
	wantData(t, small, 1, []int{2, 0}, api.OK)
	wantAt(t, small, 0, api.Place{Stripe: 0, Member: 0}, api.OK)
	wantAt(t, small, 2, api.Place{Stripe: 1, Member: 2}, api.OK)
	wantAt(t, small, 3, api.Place{Stripe: 1, Member: 0}, api.OK)
	wantAt(t, small, 8, api.Place{}, api.ErrRange)
	wantBlock(t, small, api.Place{Stripe: 1, Member: 1}, 0, api.ErrNone)
	wantBlock(t, small, api.Place{Stripe: 0, Member: 1}, 1, api.OK)
}

// P4.1 (May, Blocks, Parity, Data, Sector): from here on.

func TestMayAtEachLimit(t *testing.T) {
	for _, g := range edges() {
		wantMay(t, g, true)
	}
	for _, g := range all() {
		wantMay(t, g, true)
	}
	for ring := minRing; ring <= maxRing; ring++ {
		wantMay(t, api.Geo{Members: 3, Stripes: 4, Ring: ring}, true)
	}
}

// Each number alone makes a geometry that may not be, one beyond on both sides,
// wherever the two others stand.
func TestMayOneBeyondEachLimit(t *testing.T) {
	for _, g := range edges() {
		for _, members := range []int{minMembers - 1, maxMembers + 1} {
			wantMay(t, api.Geo{Members: members, Stripes: g.Stripes, Ring: g.Ring}, false)
		}
		for _, stripes := range []int{0, maxStripes + 1} {
			wantMay(t, api.Geo{Members: g.Members, Stripes: stripes, Ring: g.Ring}, false)
		}
		for _, ring := range []int{minRing - 1, maxRing + 1} {
			wantMay(t, api.Geo{Members: g.Members, Stripes: g.Stripes, Ring: ring}, false)
		}
	}
}

func TestMayOfWrongGeometries(t *testing.T) {
	for _, g := range wrong() {
		wantMay(t, g, false)
	}
}

func TestBlocksByHand(t *testing.T) {
	wantBlocks(t, api.Geo{Members: 3, Stripes: 1, Ring: 40}, 2)
	wantBlocks(t, api.Geo{Members: 3, Stripes: 64, Ring: 256}, 128)
	wantBlocks(t, api.Geo{Members: 5, Stripes: 7, Ring: 100}, 28)
	wantBlocks(t, api.Geo{Members: 16, Stripes: 1, Ring: 40}, 15)
	wantBlocks(t, api.Geo{Members: 16, Stripes: 64, Ring: 40}, 960)
}

func TestBlocksOfAll(t *testing.T) {
	for _, g := range append(all(), edges()...) {
		wantBlocks(t, g, len(places(g)))
	}
}

func TestBlocksOfWrongGeometries(t *testing.T) {
	for _, g := range wrong() {
		wantBlocks(t, g, 0)
	}
}

// The parity goes one member down with each stripe, and begins anew at the last one.
func TestParityByHand(t *testing.T) {
	g := api.Geo{Members: 5, Stripes: 12, Ring: 40}
	for stripe, m := range []int{4, 3, 2, 1, 0, 4, 3, 2, 1, 0, 4, 3} {
		wantParity(t, g, stripe, m, api.OK)
	}
	g = api.Geo{Members: 16, Stripes: 64, Ring: 256}
	wantParity(t, g, 0, 15, api.OK)
	wantParity(t, g, 15, 0, api.OK)
	wantParity(t, g, 16, 15, api.OK)
	wantParity(t, g, 62, 1, api.OK)
	wantParity(t, g, 63, 0, api.OK)
}

// The data go round behind the parity: from the last member to member 0.
func TestDataByHand(t *testing.T) {
	g := api.Geo{Members: 5, Stripes: 7, Ring: 40}
	for stripe, l := range [][]int{{0, 1, 2, 3}, {4, 0, 1, 2}, {3, 4, 0, 1}, {2, 3, 4, 0}, {1, 2, 3, 4}, {0, 1, 2, 3}, {4, 0, 1, 2}} {
		wantData(t, g, stripe, l, api.OK)
	}
	g = api.Geo{Members: 4, Stripes: 1, Ring: 256}
	wantData(t, g, 0, []int{0, 1, 2}, api.OK)
	g = api.Geo{Members: 16, Stripes: 64, Ring: 40}
	wantData(t, g, 14, []int{2, 3, 4, 5, 6, 7, 8, 9, 10, 11, 12, 13, 14, 15, 0}, api.OK)
	wantData(t, g, 63, []int{1, 2, 3, 4, 5, 6, 7, 8, 9, 10, 11, 12, 13, 14, 15}, api.OK)
}

func TestParityAndDataOfAll(t *testing.T) {
	for _, g := range append(all(), edges()...) {
		for stripe, r := range rows(g.Members, g.Stripes) {
			wantParity(t, g, stripe, r.parity, api.OK)
			wantData(t, g, stripe, r.data, api.OK)
		}
	}
}

// A stripe that another geometry would have is none of this one's.
func TestParityAndDataOfNoStripe(t *testing.T) {
	for _, g := range append(all(), edges()...) {
		for _, stripe := range beyond(g.Stripes) {
			if stripe >= 0 && stripe < g.Stripes {
				continue
			}
			wantParity(t, g, stripe, 0, api.ErrRange)
			wantData(t, g, stripe, nil, api.ErrRange)
		}
	}
}

// A geometry that may not be is told ahead of a stripe that is not there.
func TestParityAndDataOfWrongGeometries(t *testing.T) {
	for _, g := range wrong() {
		for _, stripe := range append(beyond(g.Stripes), 0, 1, 3, 63, 64) {
			wantParity(t, g, stripe, 0, api.ErrArg)
			wantData(t, g, stripe, nil, api.ErrArg)
		}
	}
}

func TestSectorOfEachStripe(t *testing.T) {
	want := 2
	for stripe := range maxStripes {
		wantSector(t, stripe, want, api.OK)
		want++
	}
	wantSector(t, 0, 2, api.OK)
	wantSector(t, 63, 65, api.OK)
}

func TestSectorOfNoStripe(t *testing.T) {
	for _, stripe := range append(beyond(maxStripes), -3, -65, 65, 255, 511, 512) {
		wantSector(t, stripe, 0, api.ErrRange)
	}
}

// P4.2 (At, Block): from here on.

func TestAtByHand(t *testing.T) {
	g := api.Geo{Members: 4, Stripes: 6, Ring: 40}
	for block, p := range []api.Place{
		{Stripe: 0, Member: 0}, {Stripe: 0, Member: 1}, {Stripe: 0, Member: 2},
		{Stripe: 1, Member: 3}, {Stripe: 1, Member: 0}, {Stripe: 1, Member: 1},
		{Stripe: 2, Member: 2}, {Stripe: 2, Member: 3}, {Stripe: 2, Member: 0},
		{Stripe: 3, Member: 1}, {Stripe: 3, Member: 2}, {Stripe: 3, Member: 3},
		{Stripe: 4, Member: 0}, {Stripe: 4, Member: 1}, {Stripe: 4, Member: 2},
		{Stripe: 5, Member: 3}, {Stripe: 5, Member: 0}, {Stripe: 5, Member: 1},
	} {
		wantAt(t, g, block, p, api.OK)
		wantBlock(t, g, p, block, api.OK)
	}
}

func TestAtOfTheLastBlock(t *testing.T) {
	wantAt(t, api.Geo{Members: 3, Stripes: 1, Ring: 40}, 1, api.Place{Stripe: 0, Member: 1}, api.OK)
	wantAt(t, api.Geo{Members: 16, Stripes: 64, Ring: 256}, 959, api.Place{Stripe: 63, Member: 15}, api.OK)
	wantAt(t, api.Geo{Members: 16, Stripes: 64, Ring: 256}, 960, api.Place{}, api.ErrRange)
}

func TestAtOfAll(t *testing.T) {
	for _, g := range append(all(), edges()...) {
		for block, p := range places(g) {
			wantAt(t, g, block, p, api.OK)
		}
	}
}

func TestAtOfNoBlock(t *testing.T) {
	for _, g := range append(all(), edges()...) {
		for _, block := range append(beyond(len(places(g))), g.Members*g.Stripes) {
			wantAt(t, g, block, api.Place{}, api.ErrRange)
		}
	}
}

// A geometry that may not be is told ahead of a block that is not there.
func TestAtOfWrongGeometries(t *testing.T) {
	for _, g := range wrong() {
		for _, block := range append(far(), -1, 0, 1, 7, 8, 959, 960) {
			wantAt(t, g, block, api.Place{}, api.ErrArg)
		}
	}
}

// Each place of each stripe: a block, or the parity.
func TestBlockOfEachPlace(t *testing.T) {
	for _, g := range append(all(), edges()...) {
		block := 0
		for stripe, r := range rows(g.Members, g.Stripes) {
			wantBlock(t, g, api.Place{Stripe: stripe, Member: r.parity}, 0, api.ErrNone)
			for _, m := range r.data {
				wantBlock(t, g, api.Place{Stripe: stripe, Member: m}, block, api.OK)
				block++
			}
		}
	}
}

func TestBlockOfNoStripe(t *testing.T) {
	for _, g := range edges() {
		for _, stripe := range beyond(g.Stripes) {
			if stripe >= 0 && stripe < g.Stripes {
				continue
			}
			for member := range g.Members {
				wantBlock(t, g, api.Place{Stripe: stripe, Member: member}, 0, api.ErrRange)
			}
			for _, member := range beyond(g.Members) {
				wantBlock(t, g, api.Place{Stripe: stripe, Member: member}, 0, api.ErrRange)
			}
		}
	}
}

// A member that would be one of the stripe's data, or its parity, if it went
// round once more, is none.
func TestBlockOfNoMember(t *testing.T) {
	for _, g := range edges() {
		for stripe := range g.Stripes {
			for _, member := range beyond(g.Members) {
				wantBlock(t, g, api.Place{Stripe: stripe, Member: member}, 0, api.ErrRange)
			}
			for member := range g.Members {
				wantBlock(t, g, api.Place{Stripe: stripe, Member: member - g.Members}, 0, api.ErrRange)
				wantBlock(t, g, api.Place{Stripe: stripe, Member: member + g.Members}, 0, api.ErrRange)
			}
		}
	}
}

// A geometry that may not be is told ahead of a place that is not there, and
// ahead of the parity's.
func TestBlockOfWrongGeometries(t *testing.T) {
	for _, g := range wrong() {
		for _, stripe := range append(far(), -1, 0, 1, 3, 4, 63, 64) {
			for _, member := range append(far(), -1, 0, 1, 2, 3, 15, 16) {
				wantBlock(t, g, api.Place{Stripe: stripe, Member: member}, 0, api.ErrArg)
			}
		}
	}
}

// P4.3 (what follows): from here on.

func TestBlockOfAt(t *testing.T) {
	for _, g := range append(all(), edges()...) {
		for block := range geom.Blocks(g) {
			p, e := geom.At(g, block)
			if e != api.OK {
				t.Fatalf("At(%v, %d): %v", g, block, e)
			}
			wantBlock(t, g, p, block, api.OK)
		}
	}
}

// Each place has just one block, or is its stripe's parity; no block is left over.
func TestEachPlaceHasOneBlock(t *testing.T) {
	for _, g := range append(all(), edges()...) {
		blocks := map[api.Place]int{}
		for block := range geom.Blocks(g) {
			p, _ := geom.At(g, block)
			blocks[p]++
		}
		for stripe := range g.Stripes {
			parity, _ := geom.Parity(g, stripe)
			for member := range g.Members {
				want := 1
				if member == parity {
					want = 0
				}
				p := api.Place{Stripe: stripe, Member: member}
				if blocks[p] != want {
					t.Errorf("%v: %d blocks at %v; want %d", g, blocks[p], p, want)
				}
				delete(blocks, p)
			}
		}
		if len(blocks) != 0 {
			t.Errorf("%v: blocks at places that are none: %v", g, blocks)
		}
	}
}

// Data tells the members of a stripe's blocks, in their order; with the parity's
// they are all members, each once.
func TestDataAndParityAreAllMembers(t *testing.T) {
	for _, g := range append(all(), edges()...) {
		for stripe := range g.Stripes {
			l, _ := geom.Data(g, stripe)
			for data, m := range l {
				wantAt(t, g, stripe*(g.Members-1)+data, api.Place{Stripe: stripe, Member: m}, api.OK)
			}
			parity, _ := geom.Parity(g, stripe)
			l = append(l, parity)
			slices.Sort(l)
			for m := range g.Members {
				if len(l) != g.Members || l[m] != m {
					t.Fatalf("%v: the stripe %d stands on %v", g, stripe, l)
				}
			}
		}
	}
}

// Of as many stripes as there are members, wherever they begin, each member has
// the parity once.
func TestEachMemberHasTheParityOnce(t *testing.T) {
	for _, g := range append(all(), edges()...) {
		for first := 0; first+g.Members <= g.Stripes; first++ {
			times := make([]int, g.Members)
			for stripe := range g.Members {
				m, _ := geom.Parity(g, first+stripe)
				times[m]++
			}
			for m, n := range times {
				if n != 1 {
					t.Errorf("%v: from the stripe %d on the member %d has the parity %d times", g, first, m, n)
				}
			}
		}
	}
}

// Blocks that follow each other, as many as there are members, wherever they
// begin, stand on unlike members.
func TestBlocksThatFollowEachOther(t *testing.T) {
	for _, g := range append(all(), edges()...) {
		for first := 0; first+g.Members <= geom.Blocks(g); first++ {
			times := make([]int, g.Members)
			for n := range g.Members {
				p, _ := geom.At(g, first+n)
				times[p.Member]++
			}
			for m, n := range times {
				if n != 1 {
					t.Errorf("%v: from the block %d on the member %d has %d", g, first, m, n)
				}
			}
		}
	}
}

// Where a block stands hangs neither on the ring nor on how many stripes there are.
func TestPlacesHangOnTheMembersAlone(t *testing.T) {
	for members := minMembers; members <= maxMembers; members++ {
		whole := api.Geo{Members: members, Stripes: maxStripes, Ring: maxRing}
		for _, stripes := range []int{1, 2, members, maxStripes - 1} {
			part := api.Geo{Members: members, Stripes: stripes, Ring: minRing}
			for block := range geom.Blocks(part) {
				p, _ := geom.At(whole, block)
				wantAt(t, part, block, p, api.OK)
			}
		}
	}
}

// No two answers share memory, the room behind their ends too.
func TestAnswersShareNoMemory(t *testing.T) {
	for _, g := range edges() {
		for stripe, r := range rows(g.Members, g.Stripes) {
			one, _ := geom.Data(g, stripe)
			two, _ := geom.Data(g, stripe)
			for i := range one {
				one[i] = -7
			}
			for i, room := len(one), one[:cap(one)]; i < len(room); i++ {
				room[i] = -7
			}
			_ = append(one, -8)
			if !slices.Equal(two, r.data) {
				t.Errorf("%v: the second answer to Data(%d) is %v now", g, stripe, two)
			}
			wantData(t, g, stripe, r.data, api.OK)
		}
	}
}

// The answers for one stripe stay, whatever is done with those for others.
func TestAnswersForOtherStripesShareNoMemory(t *testing.T) {
	g := api.Geo{Members: 5, Stripes: 12, Ring: 40}
	var kept [][]int
	for stripe := range g.Stripes {
		l, _ := geom.Data(g, stripe)
		kept = append(kept, l)
	}
	for stripe, r := range rows(g.Members, g.Stripes) {
		if !slices.Equal(kept[stripe], r.data) {
			t.Errorf("the answer to Data(%d) is %v now", stripe, kept[stripe])
		}
		for i := range kept[stripe] {
			kept[stripe][i] = -7
		}
	}
}

// What a call answers hangs on what it was given alone, on nothing that was
// asked ahead of it.
func TestAnswersAgain(t *testing.T) {
	for _, other := range append(edges(), wrong()...) {
		geom.Blocks(other)
		geom.At(other, 1)
		geom.Block(other, api.Place{Stripe: 2, Member: 1})
		geom.Parity(other, 1)
		geom.Data(other, 1)
		geom.Sector(other.Stripes)
		wantMay(t, small, true)
		wantBlocks(t, small, 8)
		wantAt(t, small, 7, api.Place{Stripe: 3, Member: 1}, api.OK)
		wantBlock(t, small, api.Place{Stripe: 3, Member: 1}, 7, api.OK)
		wantParity(t, small, 2, 0, api.OK)
		wantData(t, small, 2, []int{1, 2}, api.OK)
		wantSector(t, 3, 5, api.OK)
	}
}
