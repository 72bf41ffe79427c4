package seal_test

import (
	"bytes"
	"encoding/binary"
	"hash/crc32"
	"slices"
	"testing"

	"ashlar/api"
	"ashlar/seal"
)

// The document's numbers, written out, so that a part that stands elsewhere is told.
const (
	size     = 64
	maxBody  = 44
	bodyAt   = 8
	sumAt    = 52
	againAt  = 56
	greatest = 1<<64 - 1
)

// numbers are those that a sector may have: the least, the greatest, those of
// one byte alone, those that differ in one byte, and some whose bytes are all unlike.
func numbers() []uint64 {
	l := []uint64{1, 2, 5, 6, 255, 256, 257, 0x0102030405060708, 0x0807060504030201, 0x0102030405060709, 0x0202030405060708, 0xf1e2d3c4b5a69788, 1<<32 - 1, 1 << 32, 1<<63 - 1, 1 << 63, greatest - 1, greatest}
	for i := range 8 {
		l = append(l, 0x80<<(8*i), 0xff<<(8*i))
	}
	slices.Sort(l)
	return slices.Compact(l)
}

// some answers so many bytes of all kinds, none of them 0, others for each seed.
func some(many, seed int) []byte {
	b := make([]byte, many)
	n := uint32(seed)*2654435761 + 12345
	for i := range b {
		n = n*1664525 + 1013904223
		b[i] = byte(n>>24) | 1
	}
	return b
}

// bodies are those that a sector may have, of each length.
func bodies() [][]byte {
	l := [][]byte{nil, {}, {0}, {1}, {0xff}, make([]byte, maxBody), bytes.Repeat([]byte{0xff}, maxBody)}
	for many := 1; many <= maxBody; many++ {
		l = append(l, some(many, many))
	}
	return l
}

// tooLong are bodies that are longer than a sector's.
func tooLong() [][]byte {
	var l [][]byte
	for _, many := range []int{maxBody + 1, maxBody + 2, sumAt, againAt, size - 1, size, size + 1, 100, 255, 256, 300, 1 << 16, 1<<16 + maxBody, 1 << 20} {
		l = append(l, some(many, many), make([]byte, many))
	}
	return l
}

// padded answers a body with bytes 0 behind it, up to a sector's.
func padded(body []byte) []byte {
	return append(slices.Clone(body), make([]byte, maxBody-len(body))...)
}

// summed answers a sector with the sum of what stands ahead of it.
func summed(b api.Block) api.Block {
	sum := crc32.Checksum(b[:sumAt], crc32.MakeTable(crc32.Castagnoli))
	binary.LittleEndian.PutUint32(b[sumAt:], sum)
	return b
}

// laid answers a sector of two numbers and a body, with the right sum.
func laid(first, last uint64, body []byte) api.Block {
	var b api.Block
	binary.LittleEndian.PutUint64(b[:], first)
	copy(b[bodyAt:sumAt], body)
	binary.LittleEndian.PutUint64(b[againAt:], last)
	return summed(b)
}

// against answers a sector with a byte laid against one of its own.
func against(b api.Block, at int, by byte) api.Block {
	b[at] ^= by
	return b
}

// torn answers a sector of which the first bytes were written anew.
func torn(old, now api.Block, many int) api.Block {
	copy(old[:many], now[:many])
	return old
}

func put(t *testing.T, number uint64, body []byte) api.Block {
	t.Helper()
	b, e := seal.Put(number, body)
	if e != api.OK {
		t.Fatalf("Put(%x, %d bytes): %v", number, len(body), e)
	}
	return b
}

func wantPut(t *testing.T, number uint64, body []byte, want api.Block) {
	t.Helper()
	if b, e := seal.Put(number, body); b != want || e != api.OK {
		t.Errorf("Put(%x, %x) = %x, %v; want %x", number, body, b, e, want)
	}
}

func wantNoPut(t *testing.T, number uint64, body []byte, want api.Errno) {
	t.Helper()
	if b, e := seal.Put(number, body); b != (api.Block{}) || e != want {
		t.Errorf("Put(%x, %d bytes) = %x, %v; want 0s, %v", number, len(body), b, e, want)
	}
}

func wantGet(t *testing.T, b api.Block, number uint64, body []byte) {
	t.Helper()
	if n, got, e := seal.Get(b); n != number || !bytes.Equal(got, body) || e != api.OK {
		t.Errorf("Get(%x) = %x, %x, %v; want %x, %x", b, n, got, e, number, body)
	}
}

func wantNoGet(t *testing.T, b api.Block, want api.Errno) {
	t.Helper()
	if n, body, e := seal.Get(b); n != 0 || len(body) != 0 || e != want {
		t.Errorf("Get(%x) = %x, %x, %v; want 0, none, %v", b, n, body, e, want)
	}
}

func wantNewest(t *testing.T, a, b api.Block, want int) {
	t.Helper()
	if which, e := seal.Newest(a, b); which != want || e != api.OK {
		t.Errorf("Newest(%x, %x) = %d, %v; want %d", a, b, which, e, want)
	}
}

func wantNoNewest(t *testing.T, a, b api.Block) {
	t.Helper()
	if which, e := seal.Newest(a, b); which != 0 || e != api.ErrNone {
		t.Errorf("Newest(%x, %x) = %d, %v; want 0, ErrNone", a, b, which, e)
	}
}

// refused are sectors that Get doesn't take, of each kind.
func refused() []api.Block {
	whole := laid(7, 7, some(maxBody, 1))
	l := []api.Block{{}, laid(0, 0, nil), laid(0, 0, some(maxBody, 2)), laid(7, 8, nil), laid(0, greatest, nil), laid(greatest, 0, nil)}
	for _, at := range []int{0, 7, bodyAt, sumAt - 1, sumAt, againAt - 1, againAt, size - 1} {
		l = append(l, against(whole, at, 1))
	}
	return l
}

// The chapter's examples.

func TestExamples(t *testing.T) {
	wantNoPut(t, 0, nil, api.ErrArg)
	b := put(t, 5, nil)
	if first, last := binary.LittleEndian.Uint64(b[:8]), binary.LittleEndian.Uint64(b[56:]); first != 5 || last != 5 {
		t.Errorf("Put(5, none) begins with %d and ends with %d", first, last)
	}
	wantGet(t, b, 5, make([]byte, 44))
	wantNoGet(t, api.Block{}, api.ErrForm)
	wantNoPut(t, 1, make([]byte, 45), api.ErrLimit)
	wantNewest(t, put(t, 5, []byte{1}), put(t, 6, []byte{2}), 1)
	wantNoNewest(t, api.Block{}, api.Block{})
}

// P7.1 (Put, Get): from here on.

// A sector written out by hand: where each part stands, the lowest byte first.
func TestPutByHand(t *testing.T) {
	want := api.Block{
		0x08, 0x07, 0x06, 0x05, 0x04, 0x03, 0x02, 0x01,
		'1', '2', '3',
		52: 0, 0, 0, 0, 0x08, 0x07, 0x06, 0x05, 0x04, 0x03, 0x02, 0x01,
	}
	sum := crc32.Checksum(want[:52], crc32.MakeTable(crc32.Castagnoli))
	want[52], want[53], want[54], want[55] = byte(sum), byte(sum>>8), byte(sum>>16), byte(sum>>24)
	wantPut(t, 0x0102030405060708, []byte("123"), want)
	wantGet(t, want, 0x0102030405060708, padded([]byte("123")))
}

func TestPutOfEachNumberAndBody(t *testing.T) {
	for _, n := range numbers() {
		for _, body := range bodies() {
			wantPut(t, n, body, laid(n, n, body))
		}
	}
}

// Each part by itself, of a number, a body and a sum whose bytes are all unlike.
func TestWherePartsStand(t *testing.T) {
	for _, n := range numbers() {
		body := some(maxBody, int(n%1000))
		b := put(t, n, body)
		for i := range 8 {
			if c := byte(n >> (8 * i)); b[i] != c || b[againAt+i] != c {
				t.Errorf("Put(%x, ..): bytes %d and %d are %02x and %02x; want %02x", n, i, againAt+i, b[i], b[againAt+i], c)
			}
		}
		if !bytes.Equal(b[bodyAt:sumAt], body) {
			t.Errorf("Put(%x, ..): the body is %x; want %x", n, b[bodyAt:sumAt], body)
		}
		sum := crc32.Checksum(b[:sumAt], crc32.MakeTable(crc32.Castagnoli))
		if got := binary.LittleEndian.Uint32(b[sumAt:]); got != sum {
			t.Errorf("Put(%x, ..): the sum is %08x; want %08x", n, got, sum)
		}
	}
}

// Behind a shorter body stand 0s, whatever stands in the room behind its end.
func TestPutOfShorterBody(t *testing.T) {
	room := some(100, 9)
	for many := range maxBody + 1 {
		want := append(slices.Clone(room[:many]), make([]byte, maxBody-many)...)
		b := put(t, 77, room[:many])
		if !bytes.Equal(b[bodyAt:sumAt], want) {
			t.Errorf("Put(77, %d bytes): the body is %x; want %x", many, b[bodyAt:sumAt], want)
		}
		wantGet(t, b, 77, want)
	}
}

func TestPutOfNoBody(t *testing.T) {
	for _, n := range numbers() {
		want := laid(n, n, make([]byte, maxBody))
		wantPut(t, n, nil, want)
		wantPut(t, n, []byte{}, want)
		wantPut(t, n, some(50, 1)[:0], want)
		wantPut(t, n, make([]byte, maxBody), want)
	}
}

func TestPutOfTooLongBody(t *testing.T) {
	for _, n := range numbers() {
		for _, body := range tooLong() {
			wantNoPut(t, n, body, api.ErrLimit)
		}
	}
}

// A number of 0 is told ahead of a body that is too long.
func TestPutOfZero(t *testing.T) {
	for _, body := range slices.Concat(bodies(), tooLong()) {
		wantNoPut(t, 0, body, api.ErrArg)
	}
}

func TestGetOfEachNumberAndBody(t *testing.T) {
	for _, n := range numbers() {
		for _, body := range bodies() {
			wantGet(t, laid(n, n, body), n, padded(body))
		}
	}
}

// Two numbers that are unlike, whichever is greater, or in but one bit, or one
// of which is 0: with a right sum, and with a wrong one.
func TestGetOfUnlikeNumbers(t *testing.T) {
	all := append(numbers(), 0)
	for _, first := range all {
		for _, last := range all {
			if first == last {
				continue
			}
			b := laid(first, last, some(maxBody, 3))
			wantNoGet(t, b, api.ErrForm)
			wantNoGet(t, against(b, sumAt, 1), api.ErrForm)
			wantNoGet(t, against(b, 20, 0x80), api.ErrForm)
		}
	}
	for bit := range 64 {
		for _, n := range numbers() {
			wantNoGet(t, laid(n, n^1<<bit, nil), api.ErrForm)
			wantNoGet(t, laid(n^1<<bit, n, nil), api.ErrForm)
		}
	}
}

// Numbers that are alike and 0: with a right sum, and with a wrong one.
func TestGetOfZero(t *testing.T) {
	wantNoGet(t, api.Block{}, api.ErrForm)
	for _, body := range bodies() {
		b := laid(0, 0, body)
		wantNoGet(t, b, api.ErrForm)
		for i := bodyAt; i < againAt; i++ {
			wantNoGet(t, against(b, i, 1), api.ErrForm)
		}
	}
}

// The numbers are asked ahead of the sum; with numbers that are right, each
// sum but the right one is refused.
func TestGetOfWrongSum(t *testing.T) {
	for _, n := range numbers() {
		b := laid(n, n, some(maxBody, 4))
		for bit := range 32 {
			wantNoGet(t, against(b, sumAt+bit/8, 1<<(bit%8)), api.ErrSum)
		}
		for _, sum := range []uint32{0, 1, 1<<32 - 1, binary.BigEndian.Uint32(b[sumAt:]), ^binary.LittleEndian.Uint32(b[sumAt:])} {
			c := b
			binary.LittleEndian.PutUint32(c[sumAt:], sum)
			if c != b {
				wantNoGet(t, c, api.ErrSum)
			}
		}
	}
}

// The sum is that of all ahead of it, the number too, and of nothing else.
func TestGetOfSumOfLess(t *testing.T) {
	table := crc32.MakeTable(crc32.Castagnoli)
	b := put(t, 0x1122334455667788, some(maxBody, 5))
	for _, part := range [][]byte{b[bodyAt:sumAt], b[:sumAt-1], b[1:sumAt], b[:bodyAt], nil} {
		c := b
		binary.LittleEndian.PutUint32(c[sumAt:], crc32.Checksum(part, table))
		wantNoGet(t, c, api.ErrSum)
	}
	b[0], b[againAt] = 5, 5
	wantNoGet(t, b, api.ErrSum)
	wantGet(t, summed(b), 0x1122334455667705, b[bodyAt:sumAt])
}

// P7.2 (Newest): from here on.

func TestNewestOfTwo(t *testing.T) {
	all := numbers()
	for i, n := range all {
		for k, m := range all {
			a, b := put(t, n, some(maxBody, i)), put(t, m, some(maxBody, 100+k))
			want := 0
			if m > n {
				want = 1
			}
			wantNewest(t, a, b, want)
		}
	}
}

// Of the same number on both sides it is the first, also where the bodies are unlike.
func TestNewestOfTheSame(t *testing.T) {
	for _, n := range numbers() {
		for _, body := range bodies() {
			wantNewest(t, put(t, n, body), put(t, n, body), 0)
			wantNewest(t, put(t, n, body), put(t, n, some(maxBody, 300)), 0)
			wantNewest(t, put(t, n, some(maxBody, 300)), put(t, n, body), 0)
		}
	}
}

// What is refused is never the newest, whatever number it has.
func TestNewestOfOneRefused(t *testing.T) {
	for _, n := range numbers() {
		b := put(t, n, some(maxBody, 6))
		for _, c := range refused() {
			wantNewest(t, b, c, 0)
			wantNewest(t, c, b, 1)
		}
		greater := put(t, greatest, nil)
		for at := range size {
			wantNewest(t, b, against(greater, at, 0x10), 0)
			wantNewest(t, against(greater, at, 0x10), b, 1)
		}
	}
}

func TestNewestOfTwoRefused(t *testing.T) {
	for _, a := range refused() {
		for _, b := range refused() {
			wantNoNewest(t, a, b)
		}
	}
}

// P7.3 (what follows): from here on.

func TestPutThenGet(t *testing.T) {
	for _, n := range numbers() {
		for _, body := range bodies() {
			wantGet(t, put(t, n, body), n, padded(body))
		}
	}
}

// wantTorn asks that a sealed sector, torn at each byte over an old one, is the
// old one, the new one, or refused by its numbers: also with a right sum.
func wantTorn(t *testing.T, old, now api.Block) {
	t.Helper()
	for many := range size + 1 {
		b := torn(old, now, many)
		if b == old || b == now {
			continue
		}
		wantNoGet(t, b, api.ErrForm)
		wantNoGet(t, summed(b), api.ErrForm)
	}
}

func TestTornOverZero(t *testing.T) {
	for _, n := range numbers() {
		for _, body := range [][]byte{nil, {1}, some(maxBody, 7), make([]byte, maxBody)} {
			wantTorn(t, api.Block{}, put(t, n, body))
		}
	}
}

// Over one that Get takes, of another number, greater or smaller.
func TestTornOverSealed(t *testing.T) {
	for i, n := range numbers() {
		for k, m := range numbers() {
			if n == m {
				continue
			}
			wantTorn(t, put(t, n, some(maxBody, i)), put(t, m, some(maxBody, 200+k)))
			wantTorn(t, put(t, n, nil), put(t, m, nil))
		}
	}
}

// Of a torn sector and one that is whole, the newest is the whole one, till
// the torn one is there as a whole.
func TestTornIsNotTheNewest(t *testing.T) {
	stays, old, now := put(t, 6, some(maxBody, 8)), put(t, 5, some(maxBody, 9)), put(t, 0x0107, some(maxBody, 10))
	for many := range size + 1 {
		b, want := torn(old, now, many), 0
		if b == now {
			want = 1
		}
		wantNewest(t, stays, b, want)
		wantNewest(t, b, stays, 1-want)
	}
}

// Each byte of a sealed sector changed by itself, in each way.
func TestOneByteChanged(t *testing.T) {
	for _, b := range []api.Block{put(t, 1, nil), put(t, greatest, some(maxBody, 11)), put(t, 0x0102030405060708, some(20, 12)), put(t, 255, bytes.Repeat([]byte{0xff}, maxBody))} {
		for at := range size {
			want := api.ErrSum
			if at < bodyAt || at >= againAt {
				want = api.ErrForm
			}
			for by := 1; by < 256; by++ {
				wantNoGet(t, against(b, at, byte(by)), want)
			}
		}
	}
}

// The rules that hold everywhere: from here on.

// What is handed in stays as it is, the room behind its end too.
func TestArgumentsStay(t *testing.T) {
	room := some(100, 13)
	kept := slices.Clone(room)
	for many := range len(room) + 1 {
		for _, n := range []uint64{0, 1, 0x0102030405060708, greatest} {
			seal.Put(n, room[:many])
		}
	}
	if !bytes.Equal(room, kept) {
		t.Error("what was handed in is another one")
	}
}

// A sector shares no memory with the body that was handed in.
func TestSectorHasItsOwnMemory(t *testing.T) {
	body := some(maxBody, 14)
	b := put(t, 3, body)
	kept := b
	clear(body)
	if b != kept {
		t.Error("a sector is another one, since its body was changed")
	}
	wantGet(t, b, 3, some(maxBody, 14))
}

// No two answers share memory, the room behind their ends too.
func TestBodiesHaveTheirOwnMemory(t *testing.T) {
	b := put(t, 3, some(maxBody, 15))
	_, first, _ := seal.Get(b)
	_, second, _ := seal.Get(b)
	clear(first[:cap(first)])
	if !bytes.Equal(second, some(maxBody, 15)) {
		t.Errorf("a body is %x, since another one was changed", second)
	}
	wantGet(t, b, 3, some(maxBody, 15))
	clear(second[:cap(second)])
	wantGet(t, b, 3, some(maxBody, 15))
}

// What a call answers hangs on what it was given alone.
func TestAnswersAgain(t *testing.T) {
	b := put(t, 9, some(10, 16))
	seal.Put(8, some(maxBody, 17))
	seal.Put(0, nil)
	seal.Get(api.Block{})
	seal.Newest(b, api.Block{})
	wantPut(t, 9, some(10, 16), b)
	wantGet(t, b, 9, padded(some(10, 16)))
}
