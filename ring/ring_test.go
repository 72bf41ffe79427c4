package ring_test

import (
	"math"
	"math/big"
	"slices"
	"testing"

	"ashlar/api"
	"ashlar/ring"
)

// The document's numbers, written out, so that a limit that is asked wrongly is told.
const (
	maxRing        = 256
	top     uint64 = 1 << 62 // the greatest position
	most    uint64 = math.MaxUint64
)

// rings are sizes that may be, with each limit.
func rings() []int { return []int{1, 2, 3, 4, 7, 39, 40, 41, 64, 100, 255, maxRing} }

// noRings are some that may not be, some of which would be in fewer bytes.
func noRings() []int {
	return []int{
		math.MinInt, math.MinInt + 1, math.MinInt32, -1<<32 + 40, -65536 + 40, -256, -255, -216, -40, -2, -1, 0,
		maxRing + 1, maxRing + 2, 296, 512, 65535, 65536, 65536 + 40, 1 << 31, 1 << 32, 1<<32 + 40, math.MaxInt32, math.MaxInt - 1, math.MaxInt,
	}
}

// positions are some that may be, with those next to where they wrap, to where
// fewer bytes or a float end, and to the greatest one.
func positions() []uint64 {
	return []uint64{
		0, 1, 2, 3, 39, 40, 41, 81, 255, 256, 257, 511, 512, 65535, 65536,
		1<<31 - 1, 1 << 31, 1<<32 - 1, 1 << 32, 1<<32 + 1, 1<<53 + 1, 1<<61 + 1,
		top - 512, top - 257, top - 256, top - 255, top - 41, top - 40, top - 39, top - 3, top - 2, top - 1, top,
	}
}

// noPositions are some that may not be, some of which a sum would wrap to one that may.
func noPositions() []uint64 {
	return []uint64{
		top + 1, top + 2, top + 40, top + 256, 1<<63 - 1, 1 << 63, 1<<63 + 1, 1<<63 + top,
		most - 256, most - 255, most - 40, most - 39, most - 2, most - 1, most,
	}
}

// below0 are numbers of positions that may not be.
func below0() []int {
	return []int{math.MinInt, math.MinInt + 1, math.MinInt32, -1<<32 + 1, -65535, -257, -256, -255, -41, -40, -2, -1}
}

// far are numbers of positions that no ring has, some of which would be few in fewer bytes.
func far() []int {
	return []int{maxRing + 1, maxRing + 2, 512, 65535, 65536, 65537, 1 << 31, 1 << 32, 1<<32 + 1, math.MaxInt32, math.MaxInt - 256, math.MaxInt - 1, math.MaxInt}
}

// counts are numbers of sectors from 0 to a ring's size, with those at its ends.
func counts(size int) []int {
	l := []int{0, 1, 2, 3, size / 2, size - 2, size - 1, size}
	l = slices.DeleteFunc(l, func(n int) bool { return n < 0 || n > size })
	slices.Sort(l)
	return slices.Compact(l)
}

// sum answers a position and a number of positions, which may be beyond what a position holds.
func sum(at uint64, n int) *big.Int {
	a := new(big.Int).SetUint64(at)
	return a.Add(a, big.NewInt(int64(n)))
}

// mayBe tells whether a number is a position.
func mayBe(n *big.Int) bool {
	return n.Sign() >= 0 && n.Cmp(new(big.Int).SetUint64(top)) <= 0
}

// left answers what is left of a number by a ring's size.
func left(n *big.Int, size int) int {
	return int(new(big.Int).Mod(n, big.NewInt(int64(size))).Int64())
}

// leftOfAll answers the sectors of n positions, from one on.
func leftOfAll(size int, at uint64, n int) []int {
	var l []int
	for i := range n {
		l = append(l, left(sum(at, i), size))
	}
	return l
}

// use is a ring of which the positions from a tail to below a head are in use.
type use struct {
	size       int
	tail, head uint64
}

func (u use) used() int { return int(u.head - u.tail) }

func (u use) free() int { return u.size - u.used() }

// uses are those that may be: of each ring, from each position on, none in use, all,
// and numbers between.
func uses() []use {
	var l []use
	for _, size := range rings() {
		for _, tail := range positions() {
			for _, n := range counts(size) {
				if mayBe(sum(tail, n)) {
					l = append(l, use{size, tail, tail + uint64(n)})
				}
			}
		}
	}
	return l
}

// noUses are some that may not be: of a ring, a tail or a head that may not, of a tail
// above the head, of more in use than there are.
func noUses() []use {
	var l []use
	for _, size := range noRings() {
		for _, at := range positions() {
			l = append(l, use{size, at, at}, use{size, 0, at}, use{size, at, 0}, use{size, at, top})
		}
		l = append(l, use{size, most, most}, use{size, most, 0}, use{size, 0, most})
	}
	for _, size := range rings() {
		for _, at := range noPositions() {
			l = append(l, use{size, at, at}, use{size, at - 1, at}, use{size, 0, at}, use{size, at, 0}, use{size, top, at}, use{size, at, top}, use{size, at - uint64(size), at}, use{size, at, at + uint64(size)}, use{size, at, at + 1})
		}
		for _, at := range positions() {
			l = append(l, above(size, at)...)
			l = append(l, tooFar(size, at)...)
		}
	}
	return l
}

// above are uses whose tail is above their head.
func above(size int, head uint64) []use {
	var l []use
	for _, n := range append(counts(size), size+1, 255, 256, 257, 1<<16, 1<<32) {
		if n > 0 && mayBe(sum(head, n)) {
			l = append(l, use{size, head + uint64(n), head})
		}
	}
	return l
}

// tooFar are uses of more positions than there are sectors.
func tooFar(size int, tail uint64) []use {
	var l []use
	for _, n := range []int{size + 1, size + 2, 2 * size, 256 + size, 257, 512, 65536 + size, 1<<32 + size, 1<<32 + 1, 1 << 61} {
		if n > size && mayBe(sum(tail, n)) {
			l = append(l, use{size, tail, tail + uint64(n)})
		}
	}
	return l
}

func wantSector(t *testing.T, size int, at uint64, want int) {
	t.Helper()
	if n, e := ring.Sector(size, at); n != want || e != api.OK {
		t.Errorf("Sector(%d, %d) = %d, %v; want %d", size, at, n, e, want)
	}
}

func wantNoSector(t *testing.T, size int, at uint64) {
	t.Helper()
	if n, e := ring.Sector(size, at); n != 0 || e != api.ErrArg {
		t.Errorf("Sector(%d, %d) = %d, %v; want 0, %v", size, at, n, e, api.ErrArg)
	}
}

func wantFree(t *testing.T, u use, want int) {
	t.Helper()
	if n, e := ring.Free(u.size, u.tail, u.head); n != want || e != api.OK {
		t.Errorf("Free(%d, %d, %d) = %d, %v; want %d", u.size, u.tail, u.head, n, e, want)
	}
}

func wantNoFree(t *testing.T, u use) {
	t.Helper()
	if n, e := ring.Free(u.size, u.tail, u.head); n != 0 || e != api.ErrArg {
		t.Errorf("Free(%d, %d, %d) = %d, %v; want 0, %v", u.size, u.tail, u.head, n, e, api.ErrArg)
	}
}

func wantTake(t *testing.T, u use, n int, want uint64) {
	t.Helper()
	if head, e := ring.Take(u.size, u.tail, u.head, n); head != want || e != api.OK {
		t.Errorf("Take(%d, %d, %d, %d) = %d, %v; want %d", u.size, u.tail, u.head, n, head, e, want)
	}
}

func wantNoTake(t *testing.T, u use, n int, want api.Errno) {
	t.Helper()
	if head, e := ring.Take(u.size, u.tail, u.head, n); head != 0 || e != want {
		t.Errorf("Take(%d, %d, %d, %d) = %d, %v; want 0, %v", u.size, u.tail, u.head, n, head, e, want)
	}
}

func wantList(t *testing.T, size int, at uint64, n int, want []int) {
	t.Helper()
	if l, e := ring.List(size, at, n); !slices.Equal(l, want) || e != api.OK {
		t.Errorf("List(%d, %d, %d) = %v, %v; want %v", size, at, n, l, e, want)
	}
}

func wantNoList(t *testing.T, size int, at uint64, n int) {
	t.Helper()
	if l, e := ring.List(size, at, n); len(l) != 0 || e != api.ErrArg {
		t.Errorf("List(%d, %d, %d) = %v, %v; want none, %v", size, at, n, l, e, api.ErrArg)
	}
}

// list answers the sectors of positions that may be.
func list(t *testing.T, size int, at uint64, n int) []int {
	t.Helper()
	l, e := ring.List(size, at, n)
	if e != api.OK {
		t.Fatalf("List(%d, %d, %d): %v", size, at, n, e)
	}
	return l
}

// The chapter's examples.

func TestExamples(t *testing.T) {
	wantSector(t, 40, 81, 1)
	wantFree(t, use{40, 10, 30}, 20)
	wantNoFree(t, use{40, 0, 41})
	wantTake(t, use{40, 10, 30}, 20, 50)
	wantNoTake(t, use{40, 10, 30}, 21, api.ErrFull)
	wantList(t, 4, 3, 3, []int{3, 0, 1})
}

// P12.1, Sector: from here on.

// Some sectors worked out by hand, of the greatest position, too.
func TestSectorByHand(t *testing.T) {
	for _, c := range []struct {
		size int
		at   uint64
		want int
	}{
		{1, 0, 0}, {1, 1, 0}, {1, top - 1, 0}, {1, top, 0},
		{2, 0, 0}, {2, 1, 1}, {2, 2, 0}, {2, top - 1, 1}, {2, top, 0},
		{3, top, 1}, {7, top, 4}, {39, top, 4}, {41, top, 4}, {100, top, 4}, {255, top, 64},
		{40, 0, 0}, {40, 39, 39}, {40, 40, 0}, {40, 41, 1}, {40, 79, 39}, {40, 80, 0}, {40, 1 << 32, 16}, {40, top - 1, 23}, {40, top, 24},
		{maxRing, 0, 0}, {maxRing, 255, 255}, {maxRing, 256, 0}, {maxRing, 257, 1}, {maxRing, 511, 255}, {maxRing, 512, 0}, {maxRing, top - 1, 255}, {maxRing, top, 0},
	} {
		wantSector(t, c.size, c.at, c.want)
	}
}

func TestSectorOfEachRing(t *testing.T) {
	for size := 1; size <= maxRing; size++ {
		for _, at := range positions() {
			wantSector(t, size, at, left(sum(at, 0), size))
		}
	}
}

// Position by position the sectors go round, from 0 on, and up to the greatest one.
func TestSectorGoesRound(t *testing.T) {
	for size := 1; size <= maxRing; size++ {
		want := 0
		for at := range uint64(3*size + 2) {
			wantSector(t, size, at, want)
			want = next(want, size)
		}
		from := top - uint64(3*size)
		want = left(sum(from, 0), size)
		for i := range uint64(3*size + 1) {
			wantSector(t, size, from+i, want)
			want = next(want, size)
		}
	}
}

// next answers the sector behind one.
func next(sector, size int) int {
	if sector == size-1 {
		return 0
	}
	return sector + 1
}

func TestSectorOfNoRing(t *testing.T) {
	for _, size := range noRings() {
		for _, at := range append(positions(), noPositions()...) {
			wantNoSector(t, size, at)
		}
	}
}

func TestSectorOfNoPosition(t *testing.T) {
	for size := 1; size <= maxRing; size++ {
		for _, at := range noPositions() {
			wantNoSector(t, size, at)
		}
	}
}

// P12.1, Free: from here on.

func TestFreeByHand(t *testing.T) {
	for _, c := range []struct {
		u    use
		want int
	}{
		{use{1, 0, 0}, 1}, {use{1, 0, 1}, 0}, {use{1, 7, 7}, 1}, {use{1, 7, 8}, 0}, {use{1, top, top}, 1}, {use{1, top - 1, top}, 0},
		{use{2, 0, 0}, 2}, {use{2, 0, 1}, 1}, {use{2, 0, 2}, 0}, {use{2, 1, 3}, 0}, {use{2, top - 1, top}, 1}, {use{2, top - 2, top}, 0},
		{use{40, 0, 0}, 40}, {use{40, 0, 39}, 1}, {use{40, 0, 40}, 0}, {use{40, 30, 50}, 20}, {use{40, 39, 41}, 38},
		{use{maxRing, 0, 0}, 256}, {use{maxRing, 0, 1}, 255}, {use{maxRing, 0, 255}, 1}, {use{maxRing, 0, 256}, 0},
		{use{maxRing, top, top}, 256}, {use{maxRing, top - 255, top}, 1}, {use{maxRing, top - 256, top}, 0},
	} {
		wantFree(t, c.u, c.want)
	}
}

func TestFreeOfEachNumber(t *testing.T) {
	for size := 1; size <= maxRing; size++ {
		for _, tail := range positions() {
			for n := range size + 1 {
				if !mayBe(sum(tail, n)) {
					continue
				}
				wantFree(t, use{size, tail, tail + uint64(n)}, size-n)
			}
		}
	}
}

func TestFreeOfNoUse(t *testing.T) {
	for _, u := range noUses() {
		wantNoFree(t, u)
	}
}

// One position more in use than there are sectors, of each ring, and one less.
func TestFreeOfOneTooMany(t *testing.T) {
	for size := 1; size <= maxRing; size++ {
		for _, tail := range []uint64{0, 1, 40, 1 << 32, 1 << 61, top - 257, top - uint64(size) - 1} {
			many := uint64(size)
			wantFree(t, use{size, tail, tail + many - 1}, 1)
			wantFree(t, use{size, tail, tail + many}, 0)
			wantNoFree(t, use{size, tail, tail + many + 1})
		}
	}
}

// The tail one above the head, of each ring.
func TestFreeOfATailAbove(t *testing.T) {
	for size := 1; size <= maxRing; size++ {
		for _, head := range positions() {
			wantFree(t, use{size, head, head}, size)
			wantNoFree(t, use{size, head + 1, head})
		}
	}
}

// What is between a tail above the head and that head would be few, if it wrapped.
func TestFreeDoesNotWrap(t *testing.T) {
	for _, size := range rings() {
		for back := range uint64(size) {
			for head := range uint64(size) {
				wantNoFree(t, use{size, most - back, head})
			}
		}
	}
}

// P12.1, Take: from here on.

func TestTakeByHand(t *testing.T) {
	for _, c := range []struct {
		u    use
		n    int
		want uint64
	}{
		{use{1, 0, 0}, 0, 0}, {use{1, 0, 0}, 1, 1}, {use{1, 0, 1}, 0, 1}, {use{1, 1, 1}, 1, 2}, {use{1, top, top}, 0, top}, {use{1, top - 1, top - 1}, 1, top}, {use{1, top - 1, top}, 0, top},
		{use{2, 0, 0}, 2, 2}, {use{2, 0, 1}, 1, 2}, {use{2, 1, 2}, 1, 3}, {use{2, 0, 2}, 0, 2}, {use{2, top - 2, top - 2}, 2, top}, {use{2, top - 2, top - 1}, 1, top},
		{use{40, 0, 0}, 0, 0}, {use{40, 0, 0}, 40, 40}, {use{40, 0, 39}, 1, 40}, {use{40, 10, 30}, 1, 31}, {use{40, 10, 50}, 0, 50}, {use{40, 50, 50}, 40, 90},
		{use{maxRing, 0, 0}, 256, 256}, {use{maxRing, 256, 256}, 256, 512}, {use{maxRing, 1, 2}, 255, 257}, {use{maxRing, top - 256, top - 256}, 256, top}, {use{maxRing, top - 256, top - 255}, 255, top}, {use{maxRing, top, top}, 0, top},
	} {
		wantTake(t, c.u, c.n, c.want)
	}
}

// Of each number that is free, from all kinds of heads on, as far as there are positions.
func TestTakeOfEachNumber(t *testing.T) {
	for _, u := range uses() {
		for n := range u.free() + 1 {
			if !mayBe(sum(u.head, n)) {
				wantNoTake(t, u, n, api.ErrFull)
				continue
			}
			wantTake(t, u, n, u.head+uint64(n))
		}
	}
}

// One more than what is free, and many more.
func TestTakeOfMoreThanIsFree(t *testing.T) {
	for _, u := range uses() {
		for _, n := range append(far(), u.free()+1, u.free()+2, u.free()+u.size) {
			wantNoTake(t, u, n, api.ErrFull)
		}
	}
}

// As many as the ring has sectors, if some are in use.
func TestTakeOfTheWholeRing(t *testing.T) {
	for size := 1; size <= maxRing; size++ {
		for used := range size + 1 {
			u := use{size, 100, 100 + uint64(used)}
			if used == 0 {
				wantTake(t, u, size, 100+uint64(size))
				continue
			}
			wantNoTake(t, u, size, api.ErrFull)
		}
	}
}

// Up to a head of 2^62, and one beyond, of each ring.
func TestTakeUpToTheGreatestHead(t *testing.T) {
	for size := 1; size <= maxRing; size++ {
		for n := range size {
			u := use{size, top - uint64(n), top - uint64(n)}
			wantTake(t, u, n, top)
			wantNoTake(t, u, n+1, api.ErrFull)
			wantNoTake(t, u, size, api.ErrFull)
		}
		whole := top - uint64(size)
		wantTake(t, use{size, whole, whole}, size, top)
		wantNoTake(t, use{size, whole + 1, whole + 1}, size, api.ErrFull)
	}
}

func TestTakeBelow0(t *testing.T) {
	for _, u := range uses() {
		for _, n := range below0() {
			wantNoTake(t, u, n, api.ErrArg)
		}
	}
}

// What may not be is told ahead of there being no room, and whatever n is.
func TestTakeOfNoUse(t *testing.T) {
	for _, u := range noUses() {
		for _, n := range []int{math.MinInt, -1, 0, 1, 2, 40, 256, 257, math.MaxInt} {
			wantNoTake(t, u, n, api.ErrArg)
		}
	}
}

// Of a full ring, and of one that has room but no positions ahead: what may not be comes first.
func TestTakeOfWhatMayNotBeAndNoRoom(t *testing.T) {
	wantNoTake(t, use{40, 0, 40}, -1, api.ErrArg)
	wantNoTake(t, use{40, 0, 40}, 1, api.ErrFull)
	wantNoTake(t, use{40, 0, 41}, 1, api.ErrArg)
	wantNoTake(t, use{0, 0, 0}, 1, api.ErrArg)
	wantNoTake(t, use{257, 0, 257}, 1, api.ErrArg)
	wantNoTake(t, use{40, top - 40, top}, -1, api.ErrArg)
	wantNoTake(t, use{40, top, top}, -1, api.ErrArg)
	wantNoTake(t, use{40, top, top}, 1, api.ErrFull)
	wantNoTake(t, use{40, top - 40, top}, 1, api.ErrFull)
	wantNoTake(t, use{40, top - 41, top}, 1, api.ErrArg)
	wantNoTake(t, use{40, top + 1, top + 1}, 1, api.ErrArg)
	wantNoTake(t, use{40, top + 1, top + 1}, 41, api.ErrArg)
	wantNoTake(t, use{40, top, top + 1}, 0, api.ErrArg)
	wantNoTake(t, use{40, top, top + 1}, 40, api.ErrArg)
	wantNoTake(t, use{40, 31, 30}, 41, api.ErrArg)
}

// A head that would go above 2^62, and no room: both are ErrFull.
func TestTakeBeyondAndNoRoom(t *testing.T) {
	for size := 1; size <= maxRing; size++ {
		for _, n := range append(far(), size+1) {
			wantNoTake(t, use{size, top, top}, n, api.ErrFull)
			wantNoTake(t, use{size, top - uint64(size), top}, n, api.ErrFull)
			wantNoTake(t, use{size, top - 1, top}, n, api.ErrFull)
		}
	}
}

// P12.1, List: from here on.

func TestListByHand(t *testing.T) {
	for _, c := range []struct {
		size int
		at   uint64
		n    int
		want []int
	}{
		{1, 0, 1, []int{0}}, {1, 5, 1, []int{0}}, {1, top, 1, []int{0}}, {1, 5, 0, nil},
		{2, 0, 2, []int{0, 1}}, {2, 1, 2, []int{1, 0}}, {2, 3, 1, []int{1}}, {2, top - 1, 2, []int{1, 0}},
		{4, 0, 4, []int{0, 1, 2, 3}}, {4, 2, 4, []int{2, 3, 0, 1}}, {4, 7, 4, []int{3, 0, 1, 2}}, {4, 4, 3, []int{0, 1, 2}},
		{40, 38, 4, []int{38, 39, 0, 1}}, {40, 1<<32 + 22, 4, []int{38, 39, 0, 1}}, {40, top - 2, 3, []int{22, 23, 24}}, {40, top, 1, []int{24}}, {40, top, 0, nil},
		{maxRing, 254, 3, []int{254, 255, 0}}, {maxRing, top - 2, 3, []int{254, 255, 0}}, {3, top - 2, 3, []int{2, 0, 1}},
	} {
		wantList(t, c.size, c.at, c.n, c.want)
	}
}

func TestListOfEachNumber(t *testing.T) {
	for _, size := range rings() {
		for _, at := range positions() {
			want := leftOfAll(size, at, size)
			for n := range size + 1 {
				if n > 0 && !mayBe(sum(at, n-1)) {
					wantNoList(t, size, at, n)
					continue
				}
				wantList(t, size, at, n, want[:n])
			}
		}
	}
}

// As many as the ring's size, of each ring, where they wrap: each sector is there once.
func TestListOfTheWholeRing(t *testing.T) {
	for size := 1; size <= maxRing; size++ {
		for _, at := range []uint64{0, 1, uint64(size) - 1, uint64(size), 1<<32 + 1, 1<<53 + 1, top - uint64(size), top - uint64(size) + 1} {
			l := list(t, size, at, size)
			if !slices.Equal(l, leftOfAll(size, at, size)) {
				t.Errorf("List(%d, %d, %d) = %v", size, at, size, l)
			}
			slices.Sort(l)
			for i, n := range l {
				if n != i {
					t.Errorf("List(%d, %d, %d) has not each sector once", size, at, size)
					break
				}
			}
		}
	}
}

// Of no position: none, also behind the last one but one, and of the greatest one.
func TestListOfNone(t *testing.T) {
	for size := 1; size <= maxRing; size++ {
		for _, at := range positions() {
			wantList(t, size, at, 0, nil)
		}
		for _, at := range noPositions() {
			wantNoList(t, size, at, 0)
		}
	}
}

// One more than the ring's size, and many more.
func TestListOfTooMany(t *testing.T) {
	for size := 1; size <= maxRing; size++ {
		for _, at := range positions() {
			for _, n := range append(far(), size+1, size+2, 2*size) {
				if n > size {
					wantNoList(t, size, at, n)
				}
			}
		}
	}
}

func TestListBelow0(t *testing.T) {
	for _, size := range rings() {
		for _, at := range append(positions(), noPositions()...) {
			for _, n := range append(below0(), -size) {
				wantNoList(t, size, at, n)
			}
		}
	}
}

// Up to a last position of 2^62, and one above it, of each ring.
func TestListUpToTheGreatestPosition(t *testing.T) {
	for size := 1; size <= maxRing; size++ {
		for n := 1; n <= size; n++ {
			at := top - uint64(n) + 1
			l := list(t, size, at, n)
			if len(l) != n || l[n-1] != left(sum(top, 0), size) {
				t.Errorf("List(%d, %d, %d) = %v; want %d, up to the sector of 2^62", size, at, n, l, n)
			}
			wantNoList(t, size, at+1, n)
		}
	}
}

func TestListOfNoRing(t *testing.T) {
	for _, size := range noRings() {
		for _, at := range append(positions(), noPositions()...) {
			for _, n := range []int{math.MinInt, -1, 0, 1, 2, size, math.MaxInt} {
				wantNoList(t, size, at, n)
			}
		}
	}
}

// Where the last position would be one that may be, if it wrapped, too.
func TestListOfNoPosition(t *testing.T) {
	for _, size := range rings() {
		for _, at := range noPositions() {
			for n := range size + 2 {
				wantNoList(t, size, at, n)
			}
		}
	}
}

// P12.2 (what follows): from here on.

// Positions in use at once have unlike sectors, each one of them.
func TestUnlikeSectors(t *testing.T) {
	for _, u := range uses() {
		seen := make(map[int]bool)
		for i := range u.used() {
			n, e := ring.Sector(u.size, u.tail+uint64(i))
			if e != api.OK || n < 0 || n >= u.size || seen[n] {
				t.Fatalf("Sector(%d, %d) = %d, %v; from %d on that sector is in use: %v", u.size, u.tail+uint64(i), n, e, u.tail, seen[n])
			}
			seen[n] = true
		}
		if l := list(t, u.size, u.tail, u.used()); len(l) != len(seen) {
			t.Errorf("List(%d, %d, %d): %d sectors, of which %d are unlike", u.size, u.tail, u.used(), len(l), len(seen))
		}
	}
}

// What is listed from the tail on are the sectors of the positions, one by one.
func TestListIsSectors(t *testing.T) {
	for _, u := range uses() {
		for i, n := range list(t, u.size, u.tail, u.used()) {
			wantSector(t, u.size, u.tail+uint64(i), n)
		}
	}
}

// What Take gives was free, and is not any more.
func TestTakeThenFree(t *testing.T) {
	for _, u := range uses() {
		for n := range u.free() + 1 {
			if !mayBe(sum(u.head, n)) {
				continue
			}
			head, e := ring.Take(u.size, u.tail, u.head, n)
			if e != api.OK {
				t.Fatalf("Take(%d, %d, %d, %d): %v", u.size, u.tail, u.head, n, e)
			}
			wantFree(t, use{u.size, u.tail, head}, u.free()-n)
			wantNoTake(t, use{u.size, u.tail, head}, u.free()-n+1, api.ErrFull)
		}
	}
}

// holder keeps which position stands at each sector of a ring, sector by sector.
type holder struct {
	use
	at map[int]uint64
}

// take takes n positions, and holds each sector that it gives.
func (h *holder) take(t *testing.T, n int) {
	t.Helper()
	head, e := ring.Take(h.size, h.tail, h.head, n)
	if e != api.OK || head != h.head+uint64(n) {
		t.Fatalf("Take(%d, %d, %d, %d) = %d, %v", h.size, h.tail, h.head, n, head, e)
	}
	for i, s := range list(t, h.size, h.head, n) {
		if p, ok := h.at[s]; ok {
			t.Fatalf("Take(%d, %d, %d, %d) gives the sector %d, which the position %d has", h.size, h.tail, h.head, n, s, p)
		}
		h.at[s] = h.head + uint64(i)
	}
	h.head = head
}

// letGo lets the first n positions go, and their sectors.
func (h *holder) letGo(t *testing.T, n int) {
	t.Helper()
	for i, s := range list(t, h.size, h.tail, n) {
		if p := h.at[s]; p != h.tail+uint64(i) {
			t.Fatalf("the sector %d of %d is of the position %d, not of %d", s, h.size, p, h.tail+uint64(i))
		}
		delete(h.at, s)
	}
	h.tail += uint64(n)
}

// check holds what Free and Take say against the sectors that are held.
func (h *holder) check(t *testing.T) {
	t.Helper()
	wantFree(t, h.use, h.size-len(h.at))
	wantNoTake(t, h.use, h.size-len(h.at)+1, api.ErrFull)
}

// dice answers numbers from 0 to below a bound, the same ones for the same seed.
func dice(seed int) func(bound int) int {
	n := uint32(seed)*2654435761 + 12345
	return func(bound int) int {
		n = n*1664525 + 1013904223
		return int(n>>8) % bound
	}
}

// Many steps of taking and letting go, from 0 on, far out, and up to the greatest head.
func TestTakeAndLetGo(t *testing.T) {
	for _, size := range rings() {
		for _, from := range []uint64{0, 1<<32 - 300, 1<<53 - 300, 1<<61 + 1, top - 300, top - uint64(size), top} {
			h := &holder{use: use{size, from, from}, at: make(map[int]uint64)}
			roll := dice(size)
			for range 200 {
				if n := roll(h.free() + 1); mayBe(sum(h.head, n)) {
					h.take(t, n)
				} else {
					wantNoTake(t, h.use, n, api.ErrFull)
				}
				h.check(t)
				h.letGo(t, roll(h.used()+1))
				h.check(t)
			}
		}
	}
}

// All is taken, and all is let go, round by round.
func TestTakeAllAndLetAllGo(t *testing.T) {
	for _, size := range rings() {
		h := &holder{use: use{size, top - uint64(50*size), top - uint64(50*size)}, at: make(map[int]uint64)}
		for range 50 {
			h.take(t, size)
			h.check(t)
			h.letGo(t, size)
			h.check(t)
		}
		if h.head != top {
			t.Errorf("the head of %d is %d behind 50 rounds; want 2^62", size, h.head)
		}
		wantNoTake(t, h.use, 1, api.ErrFull)
		wantTake(t, h.use, 0, top)
	}
}

// The rules that hold everywhere: from here on.

// No two lists share memory, the room behind their ends too.
func TestListsShareNone(t *testing.T) {
	for _, size := range rings() {
		for _, n := range counts(size) {
			want := leftOfAll(size, 30, n)
			a, b := list(t, size, 30, n), list(t, size, 30, n)
			a = a[:cap(a)]
			for i := range a {
				a[i] = -1
			}
			if !slices.Equal(b, want) {
				t.Errorf("List(%d, 30, %d) is another one, since another list was changed: %v", size, n, b)
			}
			wantList(t, size, 30, n, want)
		}
	}
}

// What a call answers hangs on what it was given alone.
func TestAnswersAgain(t *testing.T) {
	u := use{40, 10, 30}
	for range 3 {
		wantSector(t, 40, 81, 1)
		wantFree(t, u, 20)
		wantTake(t, u, 20, 50)
		wantList(t, 40, 38, 3, []int{38, 39, 0})
		ring.Sector(7, 3)
		ring.Sector(0, most)
		ring.Free(maxRing, 5, 9)
		ring.Free(40, 9, 5)
		ring.Take(maxRing, 5, 9, 200)
		ring.Take(40, 10, 30, 21)
		ring.List(maxRing, 77, maxRing)
		ring.List(40, 38, -1)
	}
}
