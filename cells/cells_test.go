package cells_test

import (
	"hash/crc32"
	"math"
	"slices"
	"testing"

	"ashlar/api"
	"ashlar/cells"
	"ashlar/crc"
)

// The document's numbers, written out, so that a part that stands elsewhere is told.
const (
	size       = 64
	maxCells   = 32
	perSector  = 16
	placeSize  = 4
	stripes    = 64
	members    = 16
	memberAt   = 2
	alwaysZero = 3
)

// counts are all that a record may have.
func counts() []int {
	var l []int
	for n := 1; n <= maxCells; n++ {
		l = append(l, n)
	}
	return l
}

// noCounts are numbers that no record has.
func noCounts() []int {
	return []int{math.MinInt, math.MinInt32, -65536 + 1, -256 + 1, -16, -2, -1, 0, maxCells + 1, maxCells + 2, 48, 63, 64, 65, 255, 256, 257, 65536, 65537, 1<<32 + 1, math.MaxInt32, math.MaxInt - 16, math.MaxInt - 15, math.MaxInt - 14, math.MaxInt - 1, math.MaxInt}
}

// sizes are how many sectors a record of so many cells has, counted by hand.
func sizes(n int) int {
	if n <= perSector {
		return 1 + n
	}
	return 2 + n
}

// some answers a block of all kinds of bytes, none of them 0, another one for each seed.
func some(seed int) (b api.Block) {
	n := uint32(seed)*2654435761 + 12345
	for i := range b {
		n = n*1664525 + 1013904223
		b[i] = byte(n>>24) | 1
	}
	return b
}

// all answers a block of one byte.
func all(c byte) (b api.Block) {
	for i := range b {
		b[i] = c
	}
	return b
}

func cell(stripe, member int, b api.Block) api.Cell {
	return api.Cell{Place: api.Place{Stripe: stripe, Member: member}, B: b}
}

// row answers so many cells at places that are all unlike, with blocks that are all unlike.
func row(n, seed int) []api.Cell {
	l := make([]api.Cell, n)
	for i := range l {
		l[i] = cell((i*5+seed)%stripes, (i*3+seed+1)%members, some(100*seed+i))
	}
	return l
}

// with answers cells of which one has another place.
func with(l []api.Cell, at int, p api.Place) []api.Cell {
	c := slices.Clone(l)
	c[at].Place = p
	return c
}

// places are those that may be, with the first and the last of each.
func places() []api.Place {
	var l []api.Place
	for _, s := range []int{0, 1, 2, 15, 16, 17, 31, 32, 62, 63} {
		for _, m := range []int{0, 1, 2, 3, 7, 8, 14, 15} {
			l = append(l, api.Place{Stripe: s, Member: m})
		}
	}
	return l
}

// noPlaces are some that may not be, some of which would be in fewer bytes.
func noPlaces() []api.Place {
	var l []api.Place
	for _, n := range []int{math.MinInt, math.MinInt32, -65536, -65535, -256, -255, -64, -2, -1, stripes, stripes + 1, 127, 128, 255, 256, 257, 1 << 15, 65535, 65536, 65537, math.MaxInt32, 1 << 32, math.MaxInt - 1, math.MaxInt} {
		for _, m := range []int{0, 1, 15} {
			l = append(l, api.Place{Stripe: n, Member: m})
		}
	}
	for _, n := range []int{math.MinInt, math.MinInt32, -65536, -256, -255, -16, -2, -1, members, members + 1, 31, 32, 63, 127, 128, 255, 256, 257, 65536, math.MaxInt32, 1 << 32, math.MaxInt - 1, math.MaxInt} {
		for _, s := range []int{0, 1, 63} {
			l = append(l, api.Place{Stripe: s, Member: n})
		}
	}
	return append(l, api.Place{Stripe: stripes, Member: members}, api.Place{Stripe: -1, Member: -1}, api.Place{Stripe: math.MaxInt, Member: math.MinInt})
}

// spots are where a place may stand in records of so many cells: the first one,
// the last one of a sector, the first one of the next, and the last one of all.
func spots(n int) []int {
	l := []int{0, 1, perSector - 1, perSector, n / 2, n - 1}
	l = slices.DeleteFunc(l, func(at int) bool { return at >= n })
	slices.Sort(l)
	return slices.Compact(l)
}

// laid answers a record, made by bytes one behind the other.
func laid(l []api.Cell) []api.Block {
	var b []byte
	for _, c := range l {
		b = append(b, byte(c.Place.Stripe), byte(c.Place.Stripe>>8), byte(c.Place.Member), 0)
	}
	for len(b)%size != 0 {
		b = append(b, 0)
	}
	for _, c := range l {
		b = append(b, c.B[:]...)
	}
	return cut(b)
}

// cut answers bytes as sectors.
func cut(b []byte) []api.Block {
	var l []api.Block
	for len(b) > 0 {
		l = append(l, api.Block(b[:size]))
		b = b[size:]
	}
	return l
}

// joined answers the bytes of sectors.
func joined(l []api.Block) []byte {
	var b []byte
	for _, s := range l {
		b = append(b, s[:]...)
	}
	return b
}

// against answers sectors with a byte laid against one of theirs.
func against(l []api.Block, at int, by byte) []api.Block {
	c := slices.Clone(l)
	c[at/size][at%size] ^= by
	return c
}

func put(t *testing.T, l []api.Cell) []api.Block {
	t.Helper()
	b, e := cells.Put(l)
	if e != api.OK {
		t.Fatalf("Put(%d cells): %v", len(l), e)
	}
	return b
}

func get(t *testing.T, l []api.Block, n int) []api.Cell {
	t.Helper()
	c, e := cells.Get(l, n)
	if e != api.OK {
		t.Fatalf("Get(%d sectors, %d): %v", len(l), n, e)
	}
	return c
}

func wantPut(t *testing.T, l []api.Cell, want []api.Block) {
	t.Helper()
	if b, e := cells.Put(l); !slices.Equal(b, want) || e != api.OK {
		t.Errorf("Put(%v) = %x, %v; want %x", l, b, e, want)
	}
}

func wantNoPut(t *testing.T, l []api.Cell, want api.Errno) {
	t.Helper()
	if b, e := cells.Put(l); len(b) != 0 || e != want {
		t.Errorf("Put(%d cells) = %d sectors, %v; want none, %v", len(l), len(b), e, want)
	}
}

func wantGet(t *testing.T, l []api.Block, want []api.Cell) {
	t.Helper()
	if c, e := cells.Get(l, len(want)); !slices.Equal(c, want) || e != api.OK {
		t.Errorf("Get(%x, %d) = %v, %v; want %v", l, len(want), c, e, want)
	}
}

func wantNoGet(t *testing.T, l []api.Block, n int, want api.Errno) {
	t.Helper()
	if c, e := cells.Get(l, n); len(c) != 0 || e != want {
		t.Errorf("Get(%d sectors, %d) = %d cells, %v; want none, %v", len(l), n, len(c), e, want)
	}
}

func wantSum(t *testing.T, l []api.Block) {
	t.Helper()
	b := joined(l)
	sum := cells.Sum(l)
	if want := crc.Of(b); sum != want {
		t.Errorf("Sum(%d sectors) = %08x; want %08x", len(l), sum, want)
	}
	if want := crc32.Checksum(b, crc32.MakeTable(crc32.Castagnoli)); sum != want {
		t.Errorf("Sum(%d sectors) = %08x; want %08x", len(l), sum, want)
	}
}

// The chapter's examples.

func TestExamples(t *testing.T) {
	for _, c := range []struct{ n, want int }{{0, 0}, {1, 2}, {16, 17}, {17, 19}, {33, 0}} {
		if got := cells.Size(c.n); got != c.want {
			t.Errorf("Size(%d) = %d; want %d", c.n, got, c.want)
		}
	}
	wantNoPut(t, nil, api.ErrArg)
	b := put(t, []api.Cell{cell(1, 2, all(0xff))})
	if len(b) != 2 || [4]byte(b[0][:]) != [4]byte{1, 0, 2, 0} {
		t.Errorf("Put(stripe 1, member 2, ff ..) = %x", b)
	}
}

// P11.1 (Size, Put, Sum): from here on.

func TestSize(t *testing.T) {
	for _, n := range counts() {
		if got := cells.Size(n); got != sizes(n) {
			t.Errorf("Size(%d) = %d; want %d", n, got, sizes(n))
		}
	}
	for n, want := range map[int]int{1: 2, 2: 3, 15: 16, 16: 17, 17: 19, 18: 20, 31: 33, 32: 34} {
		if got := cells.Size(n); got != want {
			t.Errorf("Size(%d) = %d; want %d", n, got, want)
		}
	}
}

func TestSizeOfNoRecord(t *testing.T) {
	for _, n := range noCounts() {
		if got := cells.Size(n); got != 0 {
			t.Errorf("Size(%d) = %d; want 0", n, got)
		}
	}
}

// A record of one cell, and one of seventeen, written out by hand.
func TestPutByHand(t *testing.T) {
	wantPut(t, []api.Cell{cell(63, 15, all(0xff))}, []api.Block{{0x3f, 0x00, 0x0f, 0x00}, all(0xff)})
	wantPut(t, []api.Cell{cell(0, 0, all(0x80))}, []api.Block{{}, all(0x80)})
	l := []api.Cell{cell(1, 2, all(1)), cell(63, 0, all(2)), cell(0, 15, all(3)), cell(32, 8, all(4))}
	for i := 4; i < 15; i++ {
		l = append(l, cell(0, 0, all(byte(i+1))))
	}
	l = append(l, cell(62, 14, all(16)), cell(5, 3, all(17)))
	want := []api.Block{
		{1, 0, 2, 0, 63, 0, 0, 0, 0, 0, 15, 0, 32, 0, 8, 0, 60: 62, 61: 0, 62: 14, 63: 0},
		{5, 0, 3, 0},
	}
	for i := range 17 {
		want = append(want, all(byte(i+1)))
	}
	wantPut(t, l, want)
	wantGet(t, want, l)
}

func TestPutOfEachCount(t *testing.T) {
	for _, n := range counts() {
		for seed := range 20 {
			l := row(n, seed)
			wantPut(t, l, laid(l))
		}
	}
}

// How many sectors a record has, by itself, and where each part of it stands.
func TestWherePartsStand(t *testing.T) {
	for _, n := range counts() {
		l := row(n, n)
		b := put(t, l)
		if len(b) != sizes(n) || len(b) != cells.Size(n) {
			t.Errorf("Put(%d cells): %d sectors; want %d", n, len(b), sizes(n))
			continue
		}
		heads := len(b) - n
		for i, c := range l {
			place := b[i/perSector][i%perSector*placeSize:][:placeSize]
			if place[0] != byte(c.Place.Stripe) || place[1] != 0 || place[memberAt] != byte(c.Place.Member) || place[alwaysZero] != 0 {
				t.Errorf("Put(%d cells): the place %d is %x; want that of %v", n, i, place, c.Place)
			}
			if b[heads+i] != c.B {
				t.Errorf("Put(%d cells): the block %d is %x; want %x", n, i, b[heads+i], c.B)
			}
		}
		for at, c := range joined(b[:heads])[n*placeSize:] {
			if c != 0 {
				t.Errorf("Put(%d cells): %d bytes behind the last place stands %02x", n, at, c)
			}
		}
	}
}

func TestPutOfEachPlace(t *testing.T) {
	for s := range stripes {
		for m := range members {
			l := []api.Cell{cell(s, m, some(s))}
			wantPut(t, l, []api.Block{{byte(s), 0, byte(m), 0}, some(s)})
		}
	}
	for _, n := range []int{1, 2, 16, 17, 31, maxCells} {
		for _, at := range spots(n) {
			for _, p := range places() {
				l := with(row(n, 1), at, p)
				wantPut(t, l, laid(l))
			}
		}
	}
}

// Two cells may have one place, also all of them.
func TestPutOfOnePlace(t *testing.T) {
	for _, n := range counts() {
		l := row(n, 2)
		for _, at := range spots(n) {
			c := with(l, at, l[0].Place)
			wantPut(t, c, laid(c))
			wantGet(t, laid(c), c)
		}
		for i := range l {
			l[i] = cell(63, 15, some(1))
		}
		wantPut(t, l, laid(l))
		wantGet(t, laid(l), l)
	}
}

func TestPutOfNone(t *testing.T) {
	wantNoPut(t, nil, api.ErrArg)
	wantNoPut(t, []api.Cell{}, api.ErrArg)
	wantNoPut(t, row(5, 1)[:0], api.ErrArg)
}

func TestPutOfNoPlace(t *testing.T) {
	for _, n := range []int{1, 2, 16, 17, 31, maxCells} {
		for _, at := range spots(n) {
			for _, p := range noPlaces() {
				wantNoPut(t, with(row(n, 3), at, p), api.ErrArg)
			}
		}
	}
}

func TestPutOfTooMany(t *testing.T) {
	for _, n := range []int{maxCells + 1, maxCells + 2, 48, 49, 64, 255, 256, 257, 65536 + 1, 65536 + maxCells} {
		wantNoPut(t, row(n, 4), api.ErrLimit)
		wantNoPut(t, make([]api.Cell, n), api.ErrLimit)
	}
}

// A place that may not be is told ahead of a list that is too long, wherever it stands.
func TestPutOfTooManyAndNoPlace(t *testing.T) {
	for _, n := range []int{maxCells + 1, maxCells + 2, 64, 257} {
		for _, at := range append(spots(n), maxCells-1, maxCells) {
			for _, p := range noPlaces() {
				wantNoPut(t, with(row(n, 5), at, p), api.ErrArg)
			}
		}
	}
}

// Of no sector, of one, of many; of records and of what is none.
func TestSum(t *testing.T) {
	if sum := cells.Sum(nil); sum != 0 {
		t.Errorf("Sum(nil) = %08x", sum)
	}
	if sum := cells.Sum([]api.Block{}); sum != 0 {
		t.Errorf("Sum(none) = %08x", sum)
	}
	for _, n := range counts() {
		wantSum(t, laid(row(n, n)))
		wantSum(t, laid(row(n, n))[1:])
	}
	for _, n := range []int{1, 2, 3, 16, 33, 34, 35, 64, 100, 1000} {
		l := make([]api.Block, n)
		wantSum(t, l)
		for i := range l {
			l[i] = some(i)
		}
		wantSum(t, l)
		wantSum(t, append(l, all(0xff)))
	}
}

// The sum is of all bytes, in their order.
func TestSumOfEachByte(t *testing.T) {
	for _, n := range []int{1, 16, 17, maxCells} {
		l := laid(row(n, 6))
		sum := cells.Sum(l)
		for at := range len(l) * size {
			if cells.Sum(against(l, at, 1)) == sum {
				t.Errorf("Sum of %d cells is the same without the byte %d", n, at)
			}
		}
		if turned := slices.Clone(l); len(l) > 2 {
			turned[1], turned[2] = turned[2], turned[1]
			wantSum(t, turned)
			if cells.Sum(turned) == sum {
				t.Errorf("Sum of %d cells is the same in another order", n)
			}
		}
	}
}

// P11.2 (Get): from here on.

func TestGetOfEachCount(t *testing.T) {
	for _, n := range counts() {
		for seed := range 20 {
			l := row(n, seed)
			wantGet(t, laid(l), l)
		}
	}
}

func TestGetOfEachPlace(t *testing.T) {
	for s := range stripes {
		for m := range members {
			wantGet(t, []api.Block{{byte(s), 0, byte(m), 0}, some(m)}, []api.Cell{cell(s, m, some(m))})
		}
	}
	for _, n := range []int{1, 2, 16, 17, 31, maxCells} {
		for _, at := range spots(n) {
			for _, p := range places() {
				l := with(row(n, 7), at, p)
				wantGet(t, laid(l), l)
			}
		}
	}
}

// A count that may not be is told ahead of how many sectors there are, and of what stands there.
func TestGetOfNoCount(t *testing.T) {
	for _, n := range noCounts() {
		for many := range 40 {
			wantNoGet(t, make([]api.Block, many), n, api.ErrArg)
		}
		for _, m := range []int{1, 16, 17, maxCells} {
			wantNoGet(t, laid(row(m, 8)), n, api.ErrArg)
		}
		wantNoGet(t, nil, n, api.ErrArg)
		wantNoGet(t, []api.Block{all(0xff), all(0xff)}, n, api.ErrArg)
	}
}

// One more than MaxCells, with as many sectors as such a record would have.
func TestGetOfOneMore(t *testing.T) {
	for n := maxCells + 1; n <= 48; n++ {
		wantNoGet(t, laid(row(n, 9)), n, api.ErrArg)
	}
}

func TestGetOfTooFew(t *testing.T) {
	for _, n := range counts() {
		b := laid(row(n, 10))
		for many := range len(b) {
			wantNoGet(t, b[:many], n, api.ErrShort)
			wantNoGet(t, b[len(b)-many:], n, api.ErrShort)
			wantNoGet(t, make([]api.Block, many), n, api.ErrShort)
		}
		wantNoGet(t, nil, n, api.ErrShort)
		wantNoGet(t, []api.Block{}, n, api.ErrShort)
	}
}

// Too few sectors are told ahead of what stands there.
func TestGetOfTooFewAndNoPlace(t *testing.T) {
	for _, n := range counts() {
		for many := range sizes(n) {
			l := make([]api.Block, many)
			for i := range l {
				l[i] = all(0xff)
			}
			wantNoGet(t, l, n, api.ErrShort)
		}
	}
}

// Too many sectors, also of 0s, and with a place that may not be.
func TestGetOfTooMany(t *testing.T) {
	for _, n := range counts() {
		b := laid(row(n, 11))
		for _, more := range []int{1, 2, 16, 34, 256, 65536} {
			long := append(slices.Clone(b), make([]api.Block, more)...)
			wantNoGet(t, long, n, api.ErrForm)
			wantNoGet(t, against(long, 0, 0x80), n, api.ErrForm)
			wantNoGet(t, against(long, alwaysZero, 1), n, api.ErrForm)
		}
		wantNoGet(t, append(slices.Clone(b), some(1)), n, api.ErrForm)
	}
}

// A record of another count than it has: too few sectors, or too many.
func TestGetOfAnotherCount(t *testing.T) {
	for _, n := range counts() {
		for _, m := range counts() {
			switch b := laid(row(n, 12)); {
			case m > n:
				wantNoGet(t, b, m, api.ErrShort)
			case m < n:
				wantNoGet(t, b, m, api.ErrForm)
			}
		}
	}
}

func TestGetOfNoStripe(t *testing.T) {
	for _, n := range []int{1, 16, 17, 31, maxCells} {
		b := laid(row(n, 13))
		for _, at := range spots(n) {
			for _, stripe := range []int{stripes, stripes + 1, 127, 128, 255, 256, 257, 256 + 63, 1 << 8, 1 << 14, 1 << 15, 63 << 8, 65534, 65535} {
				c := slices.Clone(b)
				place := c[at/perSector][at%perSector*placeSize:]
				place[0], place[1] = byte(stripe), byte(stripe>>8)
				wantNoGet(t, c, n, api.ErrForm)
			}
		}
	}
}

func TestGetOfNoMember(t *testing.T) {
	for _, n := range []int{1, 16, 17, 31, maxCells} {
		b := laid(row(n, 14))
		for _, at := range spots(n) {
			for member := members; member < 256; member++ {
				c := slices.Clone(b)
				c[at/perSector][at%perSector*placeSize+memberAt] = byte(member)
				wantNoGet(t, c, n, api.ErrForm)
			}
		}
	}
}

// The last byte of each place, and each byte behind the last place, in each way.
func TestGetOfNoZero(t *testing.T) {
	for _, n := range counts() {
		b := laid(row(n, 15))
		bys := []byte{1, 2, 0x10, 0x80, 0xff}
		for i := range n {
			for _, by := range bys {
				wantNoGet(t, against(b, i*placeSize+alwaysZero, by), n, api.ErrForm)
			}
		}
		for at := n * placeSize; at < (len(b)-n)*size; at++ {
			for _, by := range bys {
				wantNoGet(t, against(b, at, by), n, api.ErrForm)
			}
		}
	}
	for by := 1; by < 256; by++ {
		wantNoGet(t, []api.Block{{3: byte(by)}, {}}, 1, api.ErrForm)
		wantNoGet(t, []api.Block{{4: byte(by)}, {}}, 1, api.ErrForm)
		wantNoGet(t, []api.Block{{63: byte(by)}, {}}, 1, api.ErrForm)
	}
}

// Places behind the last one that may be, but not in a record of so many cells.
func TestGetOfPlacesBehindTheLast(t *testing.T) {
	for _, n := range []int{1, 15, 17, 31} {
		b := laid(row(n, 16))
		c := laid(row(n+1, 16))
		mixed := slices.Concat(c[:len(c)-n-1], b[len(b)-n:])
		wantNoGet(t, mixed, n, api.ErrForm)
	}
}

// Whatever stands in the blocks is taken.
func TestGetOfEachBlock(t *testing.T) {
	for _, n := range []int{1, 16, 17, maxCells} {
		l := row(n, 17)
		for at := range n {
			for _, b := range []api.Block{{}, all(0xff), all(0x80), all(1), {63: 1}, {3: 9}} {
				l[at].B = b
				wantGet(t, laid(l), l)
				wantPut(t, l, laid(l))
			}
		}
	}
}

// P11.3 (what follows): from here on.

func TestPutThenGet(t *testing.T) {
	for _, n := range counts() {
		for seed := range 10 {
			l := row(n, seed)
			wantGet(t, put(t, l), l)
		}
		wantGet(t, put(t, make([]api.Cell, n)), make([]api.Cell, n))
	}
}

func TestGetThenPut(t *testing.T) {
	for _, n := range counts() {
		for seed := range 10 {
			b := laid(row(n, seed))
			wantPut(t, get(t, b, n), b)
		}
		b := make([]api.Block, sizes(n))
		wantPut(t, get(t, b, n), b)
	}
}

// Each byte of a record changed by itself: it is another record, or none.
func TestOneByteChanged(t *testing.T) {
	for _, n := range []int{1, 15, 16, 17, 31, maxCells} {
		l := row(n, 18)
		b := put(t, l)
		for at := range len(b) * size {
			for _, by := range []byte{1, 2, 4, 8, 0x10, 0x20, 0x40, 0x80, 0xff} {
				spoilt := against(b, at, by)
				c, e := cells.Get(spoilt, n)
				switch {
				case e == api.ErrForm && len(c) == 0:
				case e == api.OK && !slices.Equal(c, l):
					wantPut(t, c, spoilt)
				default:
					t.Errorf("Get of %d cells, byte %d spoilt by %02x: %v", n, at, by, e)
				}
			}
		}
	}
}

// The rules that hold everywhere: from here on.

// What is handed in stays as it is, the room behind its end too.
func TestArgumentsStay(t *testing.T) {
	room := row(40, 19)
	kept := slices.Clone(room)
	for many := range len(room) + 1 {
		cells.Put(room[:many])
	}
	if !slices.Equal(room, kept) {
		t.Error("cells that were handed in are others")
	}
	for _, n := range []int{-1, 0, 1, 16, 17, maxCells, maxCells + 1} {
		sectors := append(laid(row(max(n, 1), 20)), some(1), all(0xff), some(2))
		before := slices.Clone(sectors)
		for many := range len(sectors) + 1 {
			cells.Get(sectors[:many], n)
			cells.Sum(sectors[:many])
		}
		if !slices.Equal(sectors, before) {
			t.Errorf("sectors that were handed in are others, of the count %d", n)
		}
	}
}

// A record shares no memory with the cells, nor cells with the record.
func TestAnswersHaveTheirOwnMemory(t *testing.T) {
	for _, n := range []int{1, 16, 17, maxCells} {
		l := row(n, 21)
		b := put(t, l)
		clear(l)
		if !slices.Equal(b, laid(row(n, 21))) {
			t.Errorf("a record of %d cells is another one, since they were changed", n)
		}
		c := get(t, b, n)
		clear(b)
		if !slices.Equal(c, row(n, 21)) {
			t.Errorf("%d cells are others, since the record was changed", n)
		}
	}
}

// No two answers share memory, the room behind their ends too.
func TestAnswersShareNone(t *testing.T) {
	for _, n := range []int{1, 16, 17, maxCells} {
		l := row(n, 22)
		first, second := put(t, l), put(t, l)
		clear(first[:cap(first)])
		if !slices.Equal(second, laid(l)) || !slices.Equal(l, row(n, 22)) {
			t.Errorf("a record of %d cells is another one, since another was changed", n)
		}
		a, b := get(t, second, n), get(t, second, n)
		clear(a[:cap(a)])
		if !slices.Equal(b, l) || !slices.Equal(second, laid(l)) {
			t.Errorf("%d cells are others, since others were changed", n)
		}
		wantPut(t, l, laid(l))
		wantGet(t, second, l)
	}
}

// What a call answers hangs on what it was given alone.
func TestAnswersAgain(t *testing.T) {
	l := row(20, 23)
	b := put(t, l)
	sum := cells.Sum(b)
	cells.Put(row(maxCells, 24))
	cells.Put(nil)
	cells.Get(laid(row(3, 25)), 3)
	cells.Get(nil, 5)
	cells.Sum([]api.Block{all(0xff)})
	wantPut(t, l, b)
	wantGet(t, b, l)
	if again := cells.Sum(b); again != sum {
		t.Errorf("Sum = %08x; a while ago %08x", again, sum)
	}
}
