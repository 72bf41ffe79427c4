package note_test

import (
	"bytes"
	"encoding/binary"
	"hash/crc32"
	"math"
	"math/big"
	"testing"

	"ashlar/api"
	"ashlar/cells"
	"ashlar/note"
)

// The document's numbers, written out, so that a part that stands elsewhere is told.
const (
	size        = 64
	maxBody     = 44
	maxCells    = 32
	slots       = 8
	bodyAt      = 8
	atAt        = 8
	cellsAt     = 16
	noteSumAt   = 18
	restAt      = 22
	sumAt       = 52
	againAt     = 56
	top         = 4611686018427387904
	greatest    = 1<<64 - 1
	greatestSum = 1<<32 - 1
)

// seqs are numbers that a note may have.
func seqs() []uint64 {
	return []uint64{1, 2, 3, 7, 8, 9, 255, 256, 257, 1<<32 - 1, 1 << 32, 0x0102030405060708, 1 << 61, top - 1, top}
}

// ats are positions that a note may have.
func ats() []uint64 { return append(seqs(), 0) }

// above are numbers that are above 2^62.
func above() []uint64 {
	return []uint64{top + 1, top + 2, 1<<63 - 1, 1 << 63, 1<<63 + 1, greatest - 1, greatest}
}

// noSeqs are numbers that no note has.
func noSeqs() []uint64 { return append(above(), 0) }

// noCells are some numbers of cells that may not be, and some that would be in fewer bytes.
func noCells() []int {
	return []int{
		math.MinInt, math.MinInt + 1, math.MinInt + 17, -65536 + 1, -65536, -256, -32, -17, -16, -1, 0, 33, 34, 48, 49, 64, 255, 256, 257,
		65535, 65536, 65536 + 1, 65536 + 32, 1<<32 + 1, math.MaxInt - 31, math.MaxInt - 15, math.MaxInt - 1, math.MaxInt,
	}
}

func sums() []uint32 {
	return []uint32{0, 1, 255, 256, 65535, 65536, 0x01020304, 1<<31 - 1, 1 << 31, greatestSum - 1, greatestSum}
}

// plain is the note of the chapter's example.
func plain() api.Note { return api.Note{Seq: 3, At: 7, Cells: 17} }

// full is a note in whose body each byte is its own, and none but the higher one of Cells is 0.
func full() api.Note {
	return api.Note{Seq: 0x3122334455667712, At: 0x2f1e2d3c4b5a6978, Cells: 29, Sum: 0xf1e2d3c4}
}

// last is a note of the greatest numbers that may be.
func last() api.Note { return api.Note{Seq: top, At: top, Cells: maxCells, Sum: greatestSum} }

// first is a note of the least numbers that may be.
func first() api.Note { return api.Note{Seq: 1, Cells: 1} }

func some() []api.Note { return []api.Note{plain(), full(), last(), first()} }

// notes are those that may be, with the edges of each number.
func notes() []api.Note {
	l := some()
	for i, seq := range seqs() {
		for k, at := range ats() {
			for many := 1; many <= maxCells; many++ {
				l = append(l, api.Note{Seq: seq, At: at, Cells: many, Sum: sums()[(i+k+many)%len(sums())]})
			}
		}
	}
	return l
}

// changed answers a note that was changed.
func changed(n api.Note, by func(n *api.Note)) api.Note {
	by(&n)
	return n
}

// noNotes are notes that may not be, each but the first ones for one cause.
func noNotes() []api.Note {
	l := []api.Note{{}, {Seq: 1}, {Cells: 1}, {At: 1}, {Sum: 1}, {At: 1, Cells: 1}, {Seq: 1, At: 1}, {Seq: greatest, At: greatest, Cells: -1}}
	for _, n := range some() {
		for _, seq := range noSeqs() {
			l = append(l, changed(n, func(n *api.Note) { n.Seq = seq }))
		}
		for _, at := range above() {
			l = append(l, changed(n, func(n *api.Note) { n.At = at }))
		}
		for _, many := range noCells() {
			l = append(l, changed(n, func(n *api.Note) { n.Cells = many }))
		}
	}
	return l
}

// mayBe is what the document's words say of a note.
func mayBe(n api.Note) bool {
	return n.Seq >= 1 && n.Seq <= top && n.At <= top && n.Cells >= 1 && n.Cells <= maxCells
}

// sectors is how many sectors the record of so many cells has, counted out: one
// of places for every sixteen cells begun, and one for each cell.
func sectors(many int) uint64 {
	all := uint64(0)
	for i := range many {
		if i%16 == 0 {
			all++
		}
		all++
	}
	return all
}

// next is the note behind one, with the same cells and sum, whether it may be or not.
func next(n api.Note) api.Note {
	n.Seq++
	n.At += sectors(n.Cells)
	return n
}

// summed answers a sector with the sum of what stands ahead of it.
func summed(b api.Block) api.Block {
	sum := crc32.Checksum(b[:sumAt], crc32.MakeTable(crc32.Castagnoli))
	binary.LittleEndian.PutUint32(b[sumAt:], sum)
	return b
}

// sealed answers a sector of a number and a body, with the right sum.
func sealed(number uint64, body []byte) api.Block {
	var b api.Block
	binary.LittleEndian.PutUint64(b[:], number)
	copy(b[bodyAt:sumAt], body)
	binary.LittleEndian.PutUint64(b[againAt:], number)
	return summed(b)
}

// laid answers the sector of a note, whether it may be or not.
func laid(n api.Note) api.Block {
	var b []byte
	b = binary.LittleEndian.AppendUint64(b, n.At)
	b = binary.LittleEndian.AppendUint16(b, uint16(n.Cells))
	b = binary.LittleEndian.AppendUint32(b, n.Sum)
	return sealed(n.Seq, b)
}

// against answers a sector with a byte laid against one of its own.
func against(b api.Block, at int, by byte) api.Block {
	b[at] ^= by
	return b
}

// with answers a sector with another byte at a place, and the sum made right.
func with(b api.Block, at int, to byte) api.Block {
	b[at] = to
	return summed(b)
}

// withByte answers a number whose i-th byte is another one.
func withByte(n uint64, i int, to byte) uint64 {
	return n&^(0xff<<(8*i)) | uint64(to)<<(8*i)
}

func put(t *testing.T, n api.Note) api.Block {
	t.Helper()
	b, e := note.Put(n)
	if e != api.OK {
		t.Fatalf("Put(%+v): %v", n, e)
	}
	return b
}

func wantMay(t *testing.T, n api.Note, want bool) {
	t.Helper()
	if got := note.May(n); got != want {
		t.Errorf("May(%+v) = %v; want %v", n, got, want)
	}
}

func wantPut(t *testing.T, n api.Note, want api.Block) {
	t.Helper()
	if b, e := note.Put(n); b != want || e != api.OK {
		t.Errorf("Put(%+v) = %x, %v; want %x", n, b, e, want)
	}
}

func wantNoPut(t *testing.T, n api.Note) {
	t.Helper()
	if b, e := note.Put(n); b != (api.Block{}) || e != api.ErrArg {
		t.Errorf("Put(%+v) = %x, %v; want 0s, ErrArg", n, b, e)
	}
}

func wantGet(t *testing.T, b api.Block, n api.Note) {
	t.Helper()
	if got, e := note.Get(b); got != n || e != api.OK {
		t.Errorf("Get(%x) = %+v, %v; want %+v", b, got, e, n)
	}
}

func wantNoGet(t *testing.T, b api.Block, want api.Errno) {
	t.Helper()
	if n, e := note.Get(b); n != (api.Note{}) || e != want {
		t.Errorf("Get(%x) = %+v, %v; want none, %v", b, n, e, want)
	}
}

func wantSlot(t *testing.T, seq uint64, want int) {
	t.Helper()
	if got := note.Slot(seq); got != want {
		t.Errorf("Slot(%d) = %d; want %d", seq, got, want)
	}
}

func wantFollows(t *testing.T, a, b api.Note, want bool) {
	t.Helper()
	if got := note.Follows(a, b); got != want {
		t.Errorf("Follows(%+v, %+v) = %v; want %v", a, b, got, want)
	}
}

// The chapter's examples.

func TestExamples(t *testing.T) {
	wantNoPut(t, api.Note{})
	wantSlot(t, 9, 1)
	b, e := note.Put(api.Note{Seq: 3, At: 7, Cells: 17})
	if e != api.OK {
		t.Fatalf("Put: %v", e)
	}
	n, e := note.Get(b)
	if n.At != 7 || e != api.OK {
		t.Errorf("Get = %+v, %v; want At 7", n, e)
	}
	wantFollows(t, n, api.Note{Seq: 4, At: 26, Cells: 1}, true)
	wantFollows(t, n, api.Note{Seq: 4, At: 24, Cells: 1}, false)
}

// P13.1 (May, Put, Get, Slot): from here on.

func TestMay(t *testing.T) {
	for _, n := range notes() {
		wantMay(t, n, true)
	}
	for _, n := range noNotes() {
		wantMay(t, n, false)
	}
}

// Seq is 1 to 2^62.
func TestMayOfEachSeq(t *testing.T) {
	for _, n := range some() {
		for _, seq := range seqs() {
			wantMay(t, changed(n, func(n *api.Note) { n.Seq = seq }), true)
		}
		for _, seq := range noSeqs() {
			wantMay(t, changed(n, func(n *api.Note) { n.Seq = seq }), false)
		}
	}
}

// At is at most 2^62, and may be 0.
func TestMayOfEachAt(t *testing.T) {
	for _, n := range some() {
		for _, at := range ats() {
			wantMay(t, changed(n, func(n *api.Note) { n.At = at }), true)
		}
		for _, at := range above() {
			wantMay(t, changed(n, func(n *api.Note) { n.At = at }), false)
		}
	}
}

// Each number of cells within and without, and far beyond.
func TestMayOfEachNumberOfCells(t *testing.T) {
	for _, n := range some() {
		for many := -300; many <= 700; many++ {
			wantMay(t, changed(n, func(n *api.Note) { n.Cells = many }), many >= 1 && many <= 32)
		}
		for _, many := range noCells() {
			wantMay(t, changed(n, func(n *api.Note) { n.Cells = many }), false)
		}
	}
}

// Each sum may be.
func TestMayOfEachSum(t *testing.T) {
	for _, n := range some() {
		for _, sum := range sums() {
			wantMay(t, changed(n, func(n *api.Note) { n.Sum = sum }), true)
		}
	}
}

// Sectors written out by hand: where each part stands, the lowest byte first.
func TestPutByHand(t *testing.T) {
	n := api.Note{Seq: 0x1112131415161718, At: 0x2122232425262728, Cells: 32, Sum: 0xf1f2f3f4}
	want := summed(api.Block{
		0x18, 0x17, 0x16, 0x15, 0x14, 0x13, 0x12, 0x11,
		0x28, 0x27, 0x26, 0x25, 0x24, 0x23, 0x22, 0x21,
		32, 0,
		0xf4, 0xf3, 0xf2, 0xf1,
		56: 0x18, 0x17, 0x16, 0x15, 0x14, 0x13, 0x12, 0x11,
	})
	wantPut(t, n, want)
	wantGet(t, want, n)

	want = summed(api.Block{0: 3, 8: 7, 16: 17, 56: 3})
	wantPut(t, plain(), want)
	wantGet(t, want, plain())

	want = summed(api.Block{7: 0x40, 15: 0x40, 16: 32, 18: 0xff, 0xff, 0xff, 0xff, 63: 0x40})
	wantPut(t, last(), want)
	wantGet(t, want, last())
}

func TestPutOfEachNote(t *testing.T) {
	for _, n := range notes() {
		wantPut(t, n, laid(n))
	}
	for _, n := range some() {
		for _, sum := range sums() {
			n.Sum = sum
			wantPut(t, n, laid(n))
		}
	}
}

// Each part by itself, of notes in which it alone differs, in each of its bytes.
func TestWherePartsStand(t *testing.T) {
	for _, c := range []struct {
		what     string
		from, to int
		by       func(n *api.Note)
	}{
		{"Seq", 0, bodyAt, func(n *api.Note) { n.Seq ^= 0x0101010101010101 }},
		{"At", atAt, cellsAt, func(n *api.Note) { n.At ^= 0x0101010101010101 }},
		{"Cells", cellsAt, cellsAt + 1, func(n *api.Note) { n.Cells = 1 }},
		{"Sum", noteSumAt, restAt, func(n *api.Note) { n.Sum = ^n.Sum }},
	} {
		a, b := put(t, full()), put(t, changed(full(), c.by))
		for at := range sumAt {
			if inside := at >= c.from && at < c.to; inside == (a[at] == b[at]) {
				t.Errorf("%s: byte %d is %02x, then %02x", c.what, at, a[at], b[at])
			}
		}
		if again := c.what == "Seq"; again == bytes.Equal(a[againAt:], b[againAt:]) {
			t.Errorf("%s: at the end stands %x, then %x", c.what, a[againAt:], b[againAt:])
		}
	}
}

// Behind Sum all is 0, up to the sector's own sum; so is the higher byte of Cells.
func TestRestOfBodyIsZero(t *testing.T) {
	for _, n := range notes() {
		b := put(t, n)
		if b[cellsAt+1] != 0 || !bytes.Equal(b[restAt:sumAt], make([]byte, sumAt-restAt)) {
			t.Errorf("Put(%+v): behind Cells stands %x, behind Sum %x", n, b[cellsAt+1], b[restAt:sumAt])
		}
	}
}

func TestPutOfNoNote(t *testing.T) {
	for _, n := range noNotes() {
		wantNoPut(t, n)
	}
}

func TestGetOfEachNote(t *testing.T) {
	for _, n := range notes() {
		wantGet(t, laid(n), n)
	}
	for _, n := range some() {
		for _, sum := range sums() {
			n.Sum = sum
			wantGet(t, laid(n), n)
		}
	}
}

// A number that is no note's is told, though the sector is sealed and its body is a note's.
func TestGetOfEachSeq(t *testing.T) {
	for _, n := range some() {
		for _, seq := range seqs() {
			n.Seq = seq
			wantGet(t, laid(n), n)
		}
		for _, seq := range noSeqs() {
			n.Seq = seq
			wantNoGet(t, laid(n), api.ErrForm)
		}
	}
}

// Sectors of notes that may not be, but would fit into a body's bytes.
func TestGetOfNoNote(t *testing.T) {
	many := 0
	for _, n := range noNotes() {
		if n.Cells>>16 == 0 {
			wantNoGet(t, laid(n), api.ErrForm)
			many++
		}
	}
	if many < 100 {
		t.Errorf("only %d were asked", many)
	}
}

// Each number of cells that two bytes tell.
func TestGetOfEachNumberOfCells(t *testing.T) {
	for many := range 1 << 16 {
		n := changed(full(), func(n *api.Note) { n.Cells = many })
		if many >= 1 && many <= 32 {
			wantGet(t, laid(n), n)
		} else {
			wantNoGet(t, laid(n), api.ErrForm)
		}
	}
}

// Each byte of a body changed by itself, to each other one, with the sum made
// right: the note that the document's words make of it, or none.
func TestGetOfEachChange(t *testing.T) {
	for _, was := range some() {
		for at := bodyAt; at < sumAt; at++ {
			for to := range 256 {
				b := with(laid(was), at, byte(to))
				n := was
				switch {
				case at < cellsAt:
					n.At = withByte(n.At, at-atAt, byte(to))
				case at < noteSumAt:
					n.Cells = int(withByte(uint64(n.Cells), at-cellsAt, byte(to)))
				case at < restAt:
					n.Sum = uint32(withByte(uint64(n.Sum), at-noteSumAt, byte(to)))
				}
				if mayBe(n) && (at < restAt || to == 0) {
					wantGet(t, b, n)
				} else {
					wantNoGet(t, b, api.ErrForm)
				}
			}
		}
	}
}

// Bytes behind the note that are not 0: each one, each bit.
func TestGetOfRestThatIsNotZero(t *testing.T) {
	for _, n := range some() {
		for at := restAt; at < sumAt; at++ {
			for bit := range 8 {
				wantNoGet(t, with(laid(n), at, 1<<bit), api.ErrForm)
			}
		}
		all := laid(n)
		copy(all[restAt:sumAt], bytes.Repeat([]byte{0xff}, sumAt-restAt))
		wantNoGet(t, summed(all), api.ErrForm)
	}
}

// The numbers are told ahead of the sum, and the sum ahead of a number or a body
// that is no note's.
func TestGetOfSealErrors(t *testing.T) {
	beyond := changed(full(), func(n *api.Note) { n.Seq = greatest })
	for _, whole := range []api.Block{
		laid(plain()), laid(full()), laid(last()), laid(first()), laid(beyond), laid(api.Note{Seq: top + 1}),
		sealed(7, nil), sealed(7, bytes.Repeat([]byte{0xff}, maxBody)), with(laid(full()), restAt, 1),
	} {
		for at := range size {
			for bit := range 8 {
				want := api.ErrSum
				if at < bodyAt || at >= againAt {
					want = api.ErrForm
				}
				wantNoGet(t, against(whole, at, 1<<bit), want)
			}
		}
		wantNoGet(t, against(against(whole, 0, 1), sumAt, 1), api.ErrForm)
		wantNoGet(t, against(against(whole, againAt, 1), atAt, 1), api.ErrForm)
	}
	zero := changed(full(), func(n *api.Note) { n.Seq = 0 })
	wantNoGet(t, api.Block{}, api.ErrForm)
	wantNoGet(t, sealed(0, nil), api.ErrForm)
	wantNoGet(t, laid(zero), api.ErrForm)
	wantNoGet(t, against(laid(zero), atAt, 1), api.ErrForm)
}

func TestSlot(t *testing.T) {
	for seq := range uint64(1000) {
		for slot := range uint64(slots) {
			wantSlot(t, slots*seq+slot, int(slot))
		}
	}
	for _, seq := range []uint64{0, 1 << 32, 1 << 61, top - 8, top, top + 8, 1<<63 - 8, 1 << 63, greatest - 7} {
		for slot := range uint64(slots) {
			wantSlot(t, seq+slot, int(slot))
		}
	}
	wantSlot(t, 0, 0)
	wantSlot(t, greatest, 7)
}

// P13.2 (Follows): from here on.

// The sectors of a record, by hand, and as its own layer tells them.
func TestFollowsOfEachNumberOfCells(t *testing.T) {
	byHand := []uint64{
		2, 3, 4, 5, 6, 7, 8, 9, 10, 11, 12, 13, 14, 15, 16, 17,
		19, 20, 21, 22, 23, 24, 25, 26, 27, 28, 29, 30, 31, 32, 33, 34,
	}
	for i, taken := range byHand {
		many := i + 1
		if own := cells.Size(many); sectors(many) != taken || uint64(own) != taken {
			t.Fatalf("the record of %d cells has %d, %d or %d sectors", many, taken, sectors(many), own)
		}
		for _, at := range []uint64{0, 1, 7, 256, 1 << 32, 1 << 61, top - 34} {
			a := api.Note{Seq: 5, At: at, Cells: many}
			for ahead := range uint64(80) {
				wantFollows(t, a, api.Note{Seq: 6, At: at + ahead, Cells: 1}, ahead == taken && at+ahead <= top)
			}
		}
	}
}

func TestFollowsOfEachSeq(t *testing.T) {
	for _, seq := range seqs() {
		a := api.Note{Seq: seq, At: 100, Cells: 20, Sum: 9}
		for _, c := range []struct {
			seq  uint64
			want bool
		}{
			{seq - 2, false}, {seq - 1, false}, {seq, false}, {seq + 1, seq < top}, {seq + 2, false},
			{0, false}, {seq + 256, false}, {seq + 1 + 1<<32, false}, {top, seq == top-1}, {greatest, false},
		} {
			wantFollows(t, a, api.Note{Seq: c.seq, At: 122, Cells: 20, Sum: 9}, c.want)
		}
	}
}

// The place must be the very one, whatever it is.
func TestFollowsOfEachAt(t *testing.T) {
	for _, at := range ats() {
		for many := 1; many <= maxCells; many++ {
			a := api.Note{Seq: 9, At: at, Cells: many}
			b := next(a)
			wantFollows(t, a, b, b.At <= top)
			for _, other := range []uint64{b.At - 1, b.At + 1, b.At - 2, b.At + 2, at, 0, b.At + 1<<32, top, greatest} {
				if other != b.At {
					wantFollows(t, a, changed(b, func(n *api.Note) { n.At = other }), false)
				}
			}
		}
	}
}

// The first one's cells tell where the second one is, not its own ones; both sums are free.
func TestFollowsOfEachCellsAndSum(t *testing.T) {
	for _, a := range notes() {
		b := next(a)
		for many := 1; many <= maxCells; many += 5 {
			b.Cells, b.Sum = many, sums()[many%len(sums())]
			wantFollows(t, a, b, mayBe(b))
		}
	}
	a := plain()
	for _, one := range sums() {
		for _, other := range sums() {
			a.Sum = one
			wantFollows(t, a, api.Note{Seq: 4, At: 26, Cells: 1, Sum: other}, true)
		}
	}
	for many := 1; many <= maxCells; many++ {
		wantFollows(t, a, api.Note{Seq: 4, At: 26, Cells: many}, true)
	}
}

// At 2^62, and just below.
func TestFollowsAtTheTop(t *testing.T) {
	for many := 1; many <= maxCells; many++ {
		for below := range uint64(40) {
			a := api.Note{Seq: 3, At: top - below, Cells: many}
			wantFollows(t, a, next(a), below >= sectors(many))
			a = api.Note{Seq: top - below, At: 3, Cells: many}
			wantFollows(t, a, next(a), below >= 1)
			a = api.Note{Seq: top - below, At: top - below, Cells: many}
			wantFollows(t, a, next(a), below >= sectors(many))
		}
	}
	a := api.Note{Seq: top - 1, At: top - 34, Cells: 32}
	wantFollows(t, a, api.Note{Seq: top, At: top, Cells: 32}, true)
	wantFollows(t, last(), last(), false)
	wantFollows(t, last(), first(), false)
}

// Where either one may not be, none follows, though the numbers would be right.
func TestFollowsOfNoNote(t *testing.T) {
	for _, n := range noNotes() {
		for _, other := range some() {
			wantFollows(t, n, other, false)
			wantFollows(t, other, n, false)
		}
		wantFollows(t, n, n, false)
		wantFollows(t, n, api.Note{Seq: n.Seq + 1, At: n.At, Cells: 1}, false)
		wantFollows(t, n, api.Note{Seq: n.Seq + 1, At: n.At + 2, Cells: 1}, false)
		if n.Cells >= 0 && n.Cells < 1000 {
			wantFollows(t, n, next(n), false)
		}
	}
	for _, many := range noCells() {
		wantFollows(t, plain(), api.Note{Seq: 4, At: 26, Cells: many}, false)
	}
	wantFollows(t, api.Note{Seq: 0, At: 0, Cells: 1}, api.Note{Seq: 1, At: 2, Cells: 1}, false)
	wantFollows(t, api.Note{Seq: 5, At: 0, Cells: 0}, api.Note{Seq: 6, At: 0, Cells: 1}, false)
	wantFollows(t, api.Note{Seq: 5, At: 100, Cells: -1}, api.Note{Seq: 6, At: 99, Cells: 1}, false)
	wantFollows(t, api.Note{Seq: 5, At: 100, Cells: 33}, api.Note{Seq: 6, At: 136, Cells: 1}, false)
	wantFollows(t, api.Note{Seq: top + 1, At: 0, Cells: 1}, api.Note{Seq: top + 2, At: 2, Cells: 1}, false)
}

// Numbers that go round beyond what their type holds are told.
func TestFollowsGoesNotRound(t *testing.T) {
	for many := 1; many <= maxCells; many++ {
		for ahead := range uint64(40) {
			a := api.Note{Seq: 3, At: greatest - ahead, Cells: many}
			wantFollows(t, a, next(a), false)
		}
	}
	wantFollows(t, api.Note{Seq: greatest, At: 0, Cells: 1}, api.Note{Seq: 0, At: 2, Cells: 1}, false)
	wantFollows(t, api.Note{Seq: greatest, At: 0, Cells: 1}, api.Note{Seq: 1, At: 2, Cells: 1}, false)
	for _, many := range noCells() {
		for _, taken := range []int{many + 1, many + 2, many + many/16, many + many/16 + 1, many + (many+15)/16} {
			wantFollows(t, api.Note{Seq: 3, At: 100, Cells: many}, api.Note{Seq: 4, At: 100 + uint64(taken), Cells: 1}, false)
		}
	}
}

// Pairs of notes, held against sums of big numbers.
func TestFollowsByBigNumbers(t *testing.T) {
	l := append(some(), noNotes()[:40]...)
	for _, n := range notes() {
		if n.Cells%15 <= 2 {
			l = append(l, n, next(n))
		}
	}
	many := 0
	for i, a := range l {
		for k := max(0, i-60); k < min(len(l), i+60); k++ {
			b := l[k]
			one := new(big.Int).SetUint64(1)
			seq := one.Add(one, new(big.Int).SetUint64(a.Seq))
			at := new(big.Int).SetUint64(a.At)
			if mayBe(a) {
				at.Add(at, new(big.Int).SetUint64(sectors(a.Cells)))
			}
			want := mayBe(a) && mayBe(b) && seq.Cmp(new(big.Int).SetUint64(b.Seq)) == 0 && at.Cmp(new(big.Int).SetUint64(b.At)) == 0
			wantFollows(t, a, b, want)
			if want {
				many++
			}
		}
	}
	if many < 500 {
		t.Errorf("only %d followed", many)
	}
}

// P13.3 (what follows): from here on.

func TestPutThenGet(t *testing.T) {
	for _, n := range notes() {
		wantGet(t, put(t, n), n)
	}
}

// What is got is put as the same sector: of all sectors that differ from one in a byte.
func TestGetThenPut(t *testing.T) {
	many := 0
	for _, whole := range []api.Block{laid(plain()), laid(full()), laid(last()), laid(first())} {
		for at := range sumAt {
			for by := range 256 {
				b := against(whole, at, byte(by))
				copy(b[againAt:], b[:bodyAt])
				b = summed(b)
				if n, e := note.Get(b); e == api.OK {
					wantPut(t, n, b)
					many++
				}
			}
		}
	}
	if many < 10000 {
		t.Errorf("only %d were got", many)
	}
}

// Of all notes around it, one follows, but for its cells and its sum.
func TestOneFollows(t *testing.T) {
	for _, a := range some() {
		found := map[api.Note]int{}
		for seq := a.Seq - 3; seq != a.Seq+4; seq++ {
			for at := a.At - 5; at != a.At+60; at++ {
				for _, many := range []int{1, 16, 17, 32} {
					for _, sum := range sums() {
						b := api.Note{Seq: seq, At: at, Cells: many, Sum: sum}
						if note.Follows(a, b) {
							found[api.Note{Seq: seq, At: at}]++
						}
					}
				}
			}
		}
		want := 1
		if a == last() {
			want = 0
		}
		if len(found) != want {
			t.Errorf("behind %+v are %v", a, found)
		}
		for n, times := range found {
			if times != 4*len(sums()) {
				t.Errorf("behind %+v is %+v, but %d times of %d", a, n, times, 4*len(sums()))
			}
		}
	}
}

// Records one behind the other: each note follows the one ahead of it, and no other one.
func TestRow(t *testing.T) {
	var row []api.Note
	at := uint64(0)
	for seq := uint64(1); seq <= 100; seq++ {
		many := int(seq*7%maxCells) + 1
		row = append(row, api.Note{Seq: seq, At: at, Cells: many, Sum: uint32(seq) * 0x9e3779b1})
		at += uint64(cells.Size(many))
	}
	for i, a := range row {
		for k, b := range row {
			wantFollows(t, a, b, k == i+1)
		}
	}
}

// Notes in their slots: the last eight of a row are there, whatever was written ahead of them.
func TestSlotsInTurn(t *testing.T) {
	var all [slots]api.Block
	for seq := uint64(1); seq <= 100; seq++ {
		n := api.Note{Seq: seq, At: seq * 3, Cells: 1 + int(seq%maxCells)}
		all[note.Slot(seq)] = put(t, n)
		for old := max(1, int(seq)-7); old <= int(seq); old++ {
			number := uint64(old)
			wantGet(t, all[note.Slot(number)], api.Note{Seq: number, At: number * 3, Cells: 1 + old%maxCells})
		}
	}
}

// The rules that hold everywhere: from here on.

// What is handed in and what is answered are values: a change of them changes no other answer.
func TestArgumentsStay(t *testing.T) {
	n, behind := full(), next(full())
	b := put(t, n)
	sector := b
	note.May(n)
	note.Follows(n, behind)
	got, _ := note.Get(b)
	if n != full() || behind != next(full()) || b != sector {
		t.Error("what was handed in is another one")
	}
	got.At++
	n.Cells = 7
	clear(b[:])
	wantGet(t, sector, full())
	wantPut(t, full(), sector)
	wantFollows(t, full(), behind, true)
}

// What a call answers hangs on what it was given alone.
func TestAnswersAgain(t *testing.T) {
	b := put(t, full())
	note.Put(plain())
	note.Put(api.Note{})
	note.Get(api.Block{})
	note.Get(laid(last()))
	note.Follows(plain(), last())
	note.Slot(12)
	wantPut(t, full(), b)
	wantGet(t, b, full())
	wantFollows(t, full(), next(full()), true)
}
