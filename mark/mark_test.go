package mark_test

import (
	"bytes"
	"encoding/binary"
	"hash/crc32"
	"math"
	"testing"

	"ashlar/api"
	"ashlar/mark"
)

// The document's numbers, written out, so that a part that stands elsewhere is told.
const (
	size     = 64
	maxBody  = 44
	bodyAt   = 8
	idAt     = 8
	ringAt   = 16
	firstAt  = 18
	atAt     = 26
	restAt   = 34
	sumAt    = 52
	againAt  = 56
	top      = 4611686018427387904
	greatest = 1<<64 - 1
)

// counts are those that a mark may have.
func counts() []uint64 {
	return []uint64{1, 2, 3, 255, 256, 257, 1<<32 - 1, 1 << 32, 0x0102030405060708, 1 << 61, top - 1, top}
}

// above are numbers that are above 2^62.
func above() []uint64 {
	return []uint64{top + 1, top + 2, 1<<63 - 1, 1 << 63, 1<<63 + 1, greatest - 1, greatest}
}

// noCounts are numbers that are no counts.
func noCounts() []uint64 { return append(above(), 0) }

func ids() []uint64 {
	return []uint64{1, 2, 9, 255, 256, 1<<32 - 1, 1 << 32, top, top + 1, 1<<63 - 1, 1 << 63, greatest - 1, greatest}
}

func rings() []int { return []int{40, 41, 128, 255, 256} }

// noRings are some that may not be, and some that would be in fewer bytes.
func noRings() []int {
	return []int{
		math.MinInt, math.MinInt + 40, -65536 + 40, -256, -40, -1, 0, 1, 39, 257, 258, 296,
		65535, 65536, 65536 + 40, 65536 + 256, 1<<32 + 40, math.MaxInt,
	}
}

// plain is the mark of the chapter's example.
func plain() api.Mark { return api.Mark{Id: 9, Ring: 40, First: 1} }

// full is a mark in whose body each byte is its own, and none but the higher one of Ring is 0.
func full() api.Mark {
	return api.Mark{Id: 0xf1e2d3c4b5a69788, Ring: 251, First: 0x3122334455667712, At: 0x2f1e2d3c4b5a6978}
}

// last is a mark of the greatest numbers that may be.
func last() api.Mark { return api.Mark{Id: greatest, Ring: 256, First: top, At: top} }

// marks are those that may be, with the edges of each number.
func marks() []api.Mark {
	l := []api.Mark{plain(), full(), last()}
	for i, id := range ids() {
		for _, ring := range rings() {
			for k, first := range counts() {
				l = append(l, api.Mark{Id: id, Ring: ring, First: first, At: counts()[(i+k)%len(counts())]})
				l = append(l, api.Mark{Id: id, Ring: ring, First: first})
			}
		}
	}
	return l
}

// changed answers a mark that was changed.
func changed(m api.Mark, by func(m *api.Mark)) api.Mark {
	by(&m)
	return m
}

// noMarks are marks that may not be, each but the first ones for one cause.
func noMarks() []api.Mark {
	l := []api.Mark{{}, {Id: 9}, {Ring: 40}, {First: 1}, {At: 1}, {Id: 9, Ring: 40}, {Id: 9, First: 1}, {Ring: 40, First: 1}}
	for _, m := range []api.Mark{plain(), full(), last()} {
		l = append(l, changed(m, func(m *api.Mark) { m.Id = 0 }))
		for _, ring := range noRings() {
			l = append(l, changed(m, func(m *api.Mark) { m.Ring = ring }))
		}
		l = append(l, changed(m, func(m *api.Mark) { m.First = 0 }))
		for _, n := range above() {
			l = append(l, changed(m, func(m *api.Mark) { m.First = n }))
			l = append(l, changed(m, func(m *api.Mark) { m.At = n }))
		}
	}
	return l
}

// summed answers a sector with the sum of what stands ahead of it.
func summed(b api.Block) api.Block {
	sum := crc32.Checksum(b[:sumAt], crc32.MakeTable(crc32.Castagnoli))
	binary.LittleEndian.PutUint32(b[sumAt:], sum)
	return b
}

// sealed answers a sector of a number and a body, with the right sum.
func sealed(number uint64, body []byte) api.Block {
	var b api.Block
	binary.LittleEndian.PutUint64(b[:], number)
	copy(b[bodyAt:sumAt], body)
	binary.LittleEndian.PutUint64(b[againAt:], number)
	return summed(b)
}

// laid answers the sector of a count and a mark, whether they may be or not.
func laid(count uint64, m api.Mark) api.Block {
	var b []byte
	b = binary.LittleEndian.AppendUint64(b, m.Id)
	b = binary.LittleEndian.AppendUint16(b, uint16(m.Ring))
	b = binary.LittleEndian.AppendUint64(b, m.First)
	b = binary.LittleEndian.AppendUint64(b, m.At)
	return sealed(count, b)
}

// against answers a sector with a byte laid against one of its own.
func against(b api.Block, at int, by byte) api.Block {
	b[at] ^= by
	return b
}

// with answers a sector with another byte at a place, and the sum made right.
func with(b api.Block, at int, to byte) api.Block {
	b[at] = to
	return summed(b)
}

// withByte answers a number whose i-th byte is another one.
func withByte(n uint64, i int, to byte) uint64 {
	return n&^(0xff<<(8*i)) | uint64(to)<<(8*i)
}

func put(t *testing.T, count uint64, m api.Mark) api.Block {
	t.Helper()
	b, e := mark.Put(count, m)
	if e != api.OK {
		t.Fatalf("Put(%d, %+v): %v", count, m, e)
	}
	return b
}

func wantPut(t *testing.T, count uint64, m api.Mark, want api.Block) {
	t.Helper()
	if b, e := mark.Put(count, m); b != want || e != api.OK {
		t.Errorf("Put(%d, %+v) = %x, %v; want %x", count, m, b, e, want)
	}
}

func wantNoPut(t *testing.T, count uint64, m api.Mark) {
	t.Helper()
	if b, e := mark.Put(count, m); b != (api.Block{}) || e != api.ErrArg {
		t.Errorf("Put(%d, %+v) = %x, %v; want 0s, ErrArg", count, m, b, e)
	}
}

func wantMay(t *testing.T, m api.Mark, want bool) {
	t.Helper()
	if got := mark.May(m); got != want {
		t.Errorf("May(%+v) = %v; want %v", m, got, want)
	}
}

func wantGet(t *testing.T, b api.Block, count uint64, m api.Mark) {
	t.Helper()
	if n, got, e := mark.Get(b); n != count || got != m || e != api.OK {
		t.Errorf("Get(%x) = %d, %+v, %v; want %d, %+v", b, n, got, e, count, m)
	}
}

func wantNoGet(t *testing.T, b api.Block, want api.Errno) {
	t.Helper()
	if n, m, e := mark.Get(b); n != 0 || m != (api.Mark{}) || e != want {
		t.Errorf("Get(%x) = %d, %+v, %v; want 0, none, %v", b, n, m, e, want)
	}
}

func wantSlot(t *testing.T, count uint64, want int) {
	t.Helper()
	if got := mark.Slot(count); got != want {
		t.Errorf("Slot(%d) = %d; want %d", count, got, want)
	}
}

func wantNewest(t *testing.T, a, b api.Block, count uint64, m api.Mark) {
	t.Helper()
	if n, got, e := mark.Newest(a, b); n != count || got != m || e != api.OK {
		t.Errorf("Newest(%x, %x) = %d, %+v, %v; want %d, %+v", a, b, n, got, e, count, m)
	}
}

func wantNoNewest(t *testing.T, a, b api.Block) {
	t.Helper()
	if n, m, e := mark.Newest(a, b); n != 0 || m != (api.Mark{}) || e != api.ErrNone {
		t.Errorf("Newest(%x, %x) = %d, %+v, %v; want 0, none, ErrNone", a, b, n, m, e)
	}
}

// refused are sectors that Get doesn't take, of each kind; most of their counts are greater than 7.
func refused() []api.Block {
	whole := laid(1000, full())
	l := []api.Block{{}, {1}, sealed(1000, nil), sealed(1000, bytes.Repeat([]byte{0xff}, maxBody))}
	for _, count := range noCounts() {
		l = append(l, laid(count, full()))
	}
	for at := range size {
		l = append(l, against(whole, at, 0x40))
	}
	for at := restAt; at < sumAt; at++ {
		l = append(l, with(whole, at, 1))
	}
	return append(l, with(whole, ringAt, 39), with(whole, ringAt+1, 1), with(whole, firstAt+7, 0x41), with(whole, atAt+7, 0x41))
}

// The chapter's examples.

func TestExamples(t *testing.T) {
	wantNoPut(t, 1, api.Mark{})
	b, e := mark.Put(1, api.Mark{Id: 9, Ring: 40, First: 1, At: 0})
	if e != api.OK {
		t.Fatalf("Put: %v", e)
	}
	if count, m, e := mark.Get(b); count != 1 || m.Ring != 40 || e != api.OK {
		t.Errorf("Get = %d, %+v, %v; want 1, Ring 40", count, m, e)
	}
	if count, _, e := mark.Newest(b, api.Block{}); count != 1 || e != api.OK {
		t.Errorf("Newest = %d, %v; want 1", count, e)
	}
	wantSlot(t, 4, 0)
}

// P9.1 (May, Put, Get, Slot): from here on.

func TestMay(t *testing.T) {
	for _, m := range marks() {
		wantMay(t, m, true)
	}
	for _, m := range noMarks() {
		wantMay(t, m, false)
	}
}

func TestMayOfEachId(t *testing.T) {
	for _, m := range []api.Mark{plain(), full(), last()} {
		for _, id := range ids() {
			wantMay(t, changed(m, func(m *api.Mark) { m.Id = id }), true)
		}
		wantMay(t, changed(m, func(m *api.Mark) { m.Id = 0 }), false)
	}
}

// Each ring within and without, and far beyond.
func TestMayOfEachRing(t *testing.T) {
	for _, m := range []api.Mark{plain(), full(), last()} {
		for ring := -300; ring <= 700; ring++ {
			wantMay(t, changed(m, func(m *api.Mark) { m.Ring = ring }), ring >= 40 && ring <= 256)
		}
		for _, ring := range noRings() {
			wantMay(t, changed(m, func(m *api.Mark) { m.Ring = ring }), false)
		}
	}
}

// First is 1 to 2^62.
func TestMayOfEachFirst(t *testing.T) {
	for _, m := range []api.Mark{plain(), full(), last()} {
		for _, first := range counts() {
			wantMay(t, changed(m, func(m *api.Mark) { m.First = first }), true)
		}
		for _, first := range noCounts() {
			wantMay(t, changed(m, func(m *api.Mark) { m.First = first }), false)
		}
	}
}

// At is at most 2^62, and may be 0.
func TestMayOfEachAt(t *testing.T) {
	for _, m := range []api.Mark{plain(), full(), last()} {
		for _, at := range append(counts(), 0) {
			wantMay(t, changed(m, func(m *api.Mark) { m.At = at }), true)
		}
		for _, at := range above() {
			wantMay(t, changed(m, func(m *api.Mark) { m.At = at }), false)
		}
	}
}

// Sectors written out by hand: where each part stands, the lowest byte first.
func TestPutByHand(t *testing.T) {
	m := api.Mark{Id: 0x0102030405060708, Ring: 256, First: 0x2122232425262728, At: 0x3132333435363738}
	want := summed(api.Block{
		0x18, 0x17, 0x16, 0x15, 0x14, 0x13, 0x12, 0x11,
		0x08, 0x07, 0x06, 0x05, 0x04, 0x03, 0x02, 0x01,
		0, 1,
		0x28, 0x27, 0x26, 0x25, 0x24, 0x23, 0x22, 0x21,
		0x38, 0x37, 0x36, 0x35, 0x34, 0x33, 0x32, 0x31,
		56: 0x18, 0x17, 0x16, 0x15, 0x14, 0x13, 0x12, 0x11,
	})
	wantPut(t, 0x1112131415161718, m, want)
	wantGet(t, want, 0x1112131415161718, m)

	want = summed(api.Block{0: 1, 8: 9, 16: 40, 18: 1, 56: 1})
	wantPut(t, 1, plain(), want)
	wantGet(t, want, 1, plain())
}

func TestPutOfEachMark(t *testing.T) {
	l := counts()
	for i, m := range marks() {
		count := l[i%len(l)]
		wantPut(t, count, m, laid(count, m))
	}
}

// Each part by itself, of marks in which it alone differs, in each of its bytes.
func TestWherePartsStand(t *testing.T) {
	for _, c := range []struct {
		what     string
		from, to int
		by       func(m *api.Mark)
	}{
		{"Id", idAt, ringAt, func(m *api.Mark) { m.Id = ^m.Id }},
		{"Ring", ringAt, firstAt, func(m *api.Mark) { m.Ring = 256 }},
		{"First", firstAt, atAt, func(m *api.Mark) { m.First ^= 0x0101010101010101 }},
		{"At", atAt, restAt, func(m *api.Mark) { m.At ^= 0x0101010101010101 }},
	} {
		a, b := put(t, 5, full()), put(t, 5, changed(full(), c.by))
		for at := range sumAt {
			if inside := at >= c.from && at < c.to; inside == (a[at] == b[at]) {
				t.Errorf("%s: byte %d is %02x, then %02x", c.what, at, a[at], b[at])
			}
		}
	}
}

// Behind At all is 0, up to the sum.
func TestRestOfBodyIsZero(t *testing.T) {
	for _, m := range marks() {
		b := put(t, 5, m)
		if !bytes.Equal(b[restAt:sumAt], make([]byte, sumAt-restAt)) {
			t.Errorf("Put(5, %+v): behind At stands %x", m, b[restAt:sumAt])
		}
	}
}

func TestPutOfEachCount(t *testing.T) {
	for _, m := range []api.Mark{plain(), full(), last()} {
		for _, count := range counts() {
			wantPut(t, count, m, laid(count, m))
		}
		for _, count := range noCounts() {
			wantNoPut(t, count, m)
		}
	}
}

// No mark is put, whether its count may be or not.
func TestPutOfNoMark(t *testing.T) {
	for _, m := range noMarks() {
		for _, count := range append(counts(), noCounts()...) {
			wantNoPut(t, count, m)
		}
	}
}

func TestGetOfEachMark(t *testing.T) {
	l := counts()
	for i, m := range marks() {
		count := l[i%len(l)]
		wantGet(t, laid(count, m), count, m)
	}
}

// A number that is no count is told, though the sector is sealed and its body is a mark's.
func TestGetOfEachCount(t *testing.T) {
	for _, m := range []api.Mark{plain(), full(), last()} {
		for _, count := range counts() {
			wantGet(t, laid(count, m), count, m)
		}
		for _, count := range noCounts() {
			wantNoGet(t, laid(count, m), api.ErrForm)
		}
	}
}

// Bodies of marks that may not be, but would fit into a body's bytes.
func TestGetOfNoMark(t *testing.T) {
	many := 0
	for _, m := range noMarks() {
		if m.Ring>>16 == 0 {
			wantNoGet(t, laid(5, m), api.ErrForm)
			wantNoGet(t, laid(top+1, m), api.ErrForm)
			many++
		}
	}
	if many < 60 {
		t.Errorf("only %d were asked", many)
	}
}

// Each ring that two bytes tell.
func TestGetOfEachRing(t *testing.T) {
	for ring := range 1 << 16 {
		m := changed(full(), func(m *api.Mark) { m.Ring = ring })
		if ring >= 40 && ring <= 256 {
			wantGet(t, laid(7, m), 7, m)
		} else {
			wantNoGet(t, laid(7, m), api.ErrForm)
		}
	}
}

// Each byte of a body changed by itself, to each other one, with the sum made
// right: the mark that the document's words make of it, or none.
func TestGetOfEachChange(t *testing.T) {
	for _, was := range []api.Mark{plain(), full(), last()} {
		for at := bodyAt; at < sumAt; at++ {
			for to := range 256 {
				b := with(laid(7, was), at, byte(to))
				m := was
				switch {
				case at < ringAt:
					m.Id = withByte(m.Id, at-idAt, byte(to))
				case at < firstAt:
					m.Ring = int(withByte(uint64(m.Ring), at-ringAt, byte(to)))
				case at < atAt:
					m.First = withByte(m.First, at-firstAt, byte(to))
				case at < restAt:
					m.At = withByte(m.At, at-atAt, byte(to))
				}
				may := m.Id != 0 && m.Ring >= 40 && m.Ring <= 256 && m.First >= 1 && m.First <= top && m.At <= top
				if may && (at < restAt || to == 0) {
					wantGet(t, b, 7, m)
				} else {
					wantNoGet(t, b, api.ErrForm)
				}
			}
		}
	}
}

// Bytes behind the mark that are not 0: each one, each bit.
func TestGetOfRestThatIsNotZero(t *testing.T) {
	for _, m := range []api.Mark{plain(), full(), last()} {
		for at := restAt; at < sumAt; at++ {
			for bit := range 8 {
				wantNoGet(t, with(laid(7, m), at, 1<<bit), api.ErrForm)
			}
		}
		all := laid(7, m)
		copy(all[restAt:sumAt], bytes.Repeat([]byte{0xff}, sumAt-restAt))
		wantNoGet(t, summed(all), api.ErrForm)
	}
}

// The numbers are told ahead of the sum, and the sum ahead of a count or a body
// that is none.
func TestGetOfSealErrors(t *testing.T) {
	for _, whole := range []api.Block{
		laid(7, plain()), laid(top, full()), laid(top+1, full()), laid(greatest, last()), laid(7, api.Mark{}),
		laid(greatest, api.Mark{}), sealed(7, nil), sealed(7, bytes.Repeat([]byte{3}, maxBody)), with(laid(7, full()), restAt, 1),
	} {
		for at := range size {
			for bit := range 8 {
				want := api.ErrSum
				if at < bodyAt || at >= againAt {
					want = api.ErrForm
				}
				wantNoGet(t, against(whole, at, 1<<bit), want)
			}
		}
		wantNoGet(t, against(against(whole, 0, 1), sumAt, 1), api.ErrForm)
		wantNoGet(t, against(against(whole, againAt, 1), atAt, 1), api.ErrForm)
	}
	wantNoGet(t, api.Block{}, api.ErrForm)
	wantNoGet(t, sealed(0, nil), api.ErrForm)
	wantNoGet(t, laid(0, full()), api.ErrForm)
	wantNoGet(t, against(laid(0, full()), atAt, 1), api.ErrForm)
}

func TestSlot(t *testing.T) {
	for count := range uint64(1000) {
		wantSlot(t, 2*count, 0)
		wantSlot(t, 2*count+1, 1)
	}
	for _, count := range []uint64{0, 1 << 32, 1 << 61, top - 2, top, top + 2, 1 << 63, greatest - 1} {
		wantSlot(t, count, 0)
		wantSlot(t, count+1, 1)
	}
}

// P9.2 (Newest): from here on.

func TestNewestOfTwo(t *testing.T) {
	for i, n := range counts() {
		for k, m := range counts() {
			one, other := plain(), full()
			if (i+k)%2 == 0 {
				one, other = other, one
			}
			if m > n {
				wantNewest(t, laid(n, one), laid(m, other), m, other)
			} else {
				wantNewest(t, laid(n, one), laid(m, other), n, one)
			}
		}
	}
}

// Of the same count on both it is the first one, whatever stands there.
func TestNewestOfTheSameCount(t *testing.T) {
	for _, n := range counts() {
		a, b := laid(n, plain()), laid(n, full())
		wantNewest(t, a, b, n, plain())
		wantNewest(t, b, a, n, full())
		wantNewest(t, a, a, n, plain())
	}
}

// The count tells the newest, not what else the mark tells, nor the sector that Slot says.
func TestNewestIsOfTheCountAlone(t *testing.T) {
	wantNewest(t, laid(8, plain()), laid(6, last()), 8, plain())
	wantNewest(t, laid(6, last()), laid(8, plain()), 8, plain())
	wantNewest(t, laid(7, plain()), laid(5, last()), 7, plain())
	wantNewest(t, laid(5, last()), laid(7, plain()), 7, plain())
}

// What is refused is never the newest, whatever count it has.
func TestNewestOfOneRefused(t *testing.T) {
	for _, n := range []uint64{1, 7, 1000, top} {
		a := laid(n, plain())
		for _, b := range refused() {
			wantNewest(t, a, b, n, plain())
			wantNewest(t, b, a, n, plain())
		}
	}
}

func TestNewestOfTwoRefused(t *testing.T) {
	for _, a := range refused() {
		for _, b := range refused() {
			wantNoNewest(t, a, b)
		}
	}
}

// P9.3 (what follows): from here on.

func TestPutThenGet(t *testing.T) {
	l := counts()
	for i, m := range marks() {
		count := l[i%len(l)]
		wantGet(t, put(t, count, m), count, m)
	}
}

// What is got is put as the same sector: of all sectors that differ from one in a byte.
func TestGetThenPut(t *testing.T) {
	many := 0
	for _, whole := range []api.Block{laid(7, plain()), laid(top, full()), laid(1, last())} {
		for at := bodyAt; at < sumAt; at++ {
			for by := range 256 {
				b := summed(against(whole, at, byte(by)))
				if count, m, e := mark.Get(b); e == api.OK {
					wantPut(t, count, m, b)
					many++
				}
			}
		}
	}
	if many < 10000 {
		t.Errorf("only %d were got", many)
	}
}

// Marks of rising counts, each one where Slot says: the newest is always the
// last one, and the one ahead of it is still there, wherever that one is torn.
func TestSlotsInTurn(t *testing.T) {
	var both [2]api.Block
	old := api.Mark{}
	for count := uint64(1); count <= 300; count++ {
		m := api.Mark{Id: 9, Ring: 40, First: count * 3, At: count * 5}
		at := mark.Slot(count)
		written := put(t, count, m)
		for many := range size {
			torn := both
			copy(torn[at][:many], written[:many])
			switch {
			case torn[at] == written:
				wantNewest(t, torn[0], torn[1], count, m)
			case count == 1:
				wantNoNewest(t, torn[0], torn[1])
			default:
				wantNewest(t, torn[0], torn[1], count-1, old)
			}
		}
		both[at] = written
		wantNewest(t, both[0], both[1], count, m)
		old = m
	}
}

// The rules that hold everywhere: from here on.

// What is handed in and what is answered are values: a change of them changes no other answer.
func TestArgumentsStay(t *testing.T) {
	m := full()
	b := put(t, 5, m)
	sector := b
	mark.May(m)
	_, got, _ := mark.Get(b)
	_, newest, _ := mark.Newest(b, b)
	if m != full() || b != sector {
		t.Error("what was handed in is another one")
	}
	got.First++
	newest.At++
	m.Ring = 7
	clear(b[:])
	wantGet(t, sector, 5, full())
	wantPut(t, 5, full(), sector)
}

// What a call answers hangs on what it was given alone.
func TestAnswersAgain(t *testing.T) {
	b := put(t, 9, full())
	mark.Put(10, plain())
	mark.Put(0, api.Mark{})
	mark.Get(api.Block{})
	mark.Newest(laid(11, plain()), b)
	mark.Slot(12)
	wantPut(t, 9, full(), b)
	wantGet(t, b, 9, full())
}
