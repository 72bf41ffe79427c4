package crc_test

import (
	"bytes"
	"hash/crc32"
	"slices"
	"testing"

	"ashlar/api"
	"ashlar/crc"
)

const maxZeros = 1 << 20

// step is one step, as the document's words say it: by no table and no shift.
func step(r uint32) uint32 {
	if r%2 == 1 {
		return (r / 2) ^ 0x82f63b78
	}
	return r / 2
}

// take takes a byte in, as the document's words say it.
func take(r uint32, c byte) uint32 {
	r ^= uint32(c)
	for range 8 {
		r = step(r)
	}
	return r
}

// more goes on with a sum, as the promise's words say it.
func more(sum uint32, b []byte) uint32 {
	r := sum ^ 0xffffffff
	for _, c := range b {
		r = take(r, c)
	}
	return r ^ 0xffffffff
}

// someSums are the least, the greatest, each single bit, all bits but one, and others.
func someSums() []uint32 {
	l := []uint32{0, 0xffffffff, 0x82f63b78, 0x7d09c487, 0x12345678, 0xdeadbeef, 0xaaaaaaaa, 0x55555555}
	for i := range 32 {
		l = append(l, 1<<i, ^uint32(1<<i), 1<<i-1)
	}
	n := uint32(1)
	for range 200 {
		n = n*1664525 + 1013904223
		l = append(l, n^n>>16)
	}
	return l
}

// someBytes answers so many bytes of all kinds.
func someBytes(many int) []byte {
	b := make([]byte, many)
	n := uint32(many)*7 + 3
	for i := range b {
		n = n*1664525 + 1013904223
		b[i] = byte(n >> 24)
	}
	return b
}

// behind answers bytes with a number behind them, its lowest byte first.
func behind(b []byte, n uint32) []byte {
	return append(slices.Clone(b), byte(n), byte(n>>8), byte(n>>16), byte(n>>24))
}

func wantOf(t *testing.T, b []byte, want uint32) {
	t.Helper()
	if got := crc.Of(b); got != want {
		t.Errorf("Of(%d bytes) = %08x; want %08x", len(b), got, want)
	}
}

func wantMore(t *testing.T, sum uint32, b []byte, want uint32) {
	t.Helper()
	if got := crc.More(sum, b); got != want {
		t.Errorf("More(%08x, %d bytes) = %08x; want %08x", sum, len(b), got, want)
	}
}

func wantZeros(t *testing.T, sum uint32, n int, want uint32) {
	t.Helper()
	if got, e := crc.Zeros(sum, n); got != want || e != api.OK {
		t.Errorf("Zeros(%08x, %d) = %08x, %v; want %08x", sum, n, got, e, want)
	}
}

func wantNoZeros(t *testing.T, sum uint32, n int) {
	t.Helper()
	if got, e := crc.Zeros(sum, n); got != 0 || e != api.ErrArg {
		t.Errorf("Zeros(%08x, %d) = %08x, %v; want 0, ErrArg", sum, n, got, e)
	}
}

// P2.1 (Step, Take, More, Of): from here on.

func TestExamples(t *testing.T) {
	wantOf(t, nil, 0)
	wantOf(t, []byte("123456789"), 0xe3069283)
	if r := crc.Step(1); r != 0x82f63b78 {
		t.Errorf("Step(1) = %08x", r)
	}
	if r := crc.Step(2); r != 1 {
		t.Errorf("Step(2) = %08x", r)
	}
	if r := crc.Take(0, 1); r != 0xf26b8303 {
		t.Errorf("Take(0, 1) = %08x", r)
	}
	wantZeros(t, 0, 32, 0x8a9136aa)
	wantNoZeros(t, 0, -1)
}

func TestStepByHand(t *testing.T) {
	for _, c := range []struct{ r, want uint32 }{
		{0, 0}, {1, 0x82f63b78}, {2, 1}, {3, 0x82f63b79}, {4, 2},
		{0x80000000, 0x40000000}, {0x80000001, 0xc2f63b78},
		{0xfffffffe, 0x7fffffff}, {0xffffffff, 0xfd09c487}, {0x82f63b78, 0x417b1dbc},
	} {
		if r := crc.Step(c.r); r != c.want {
			t.Errorf("Step(%08x) = %08x; want %08x", c.r, r, c.want)
		}
	}
}

func TestStepOfSums(t *testing.T) {
	for _, s := range someSums() {
		if r := crc.Step(s); r != step(s) {
			t.Errorf("Step(%08x) = %08x; want %08x", s, r, step(s))
		}
	}
}

// Each byte, into each kind of number: that goes through all halves.
func TestTakeOfEachByte(t *testing.T) {
	for _, s := range someSums() {
		for c := range 256 {
			if r, want := crc.Take(s, byte(c)), take(s, byte(c)); r != want {
				t.Errorf("Take(%08x, %02x) = %08x; want %08x", s, c, r, want)
			}
		}
	}
}

// To take a byte in is that against the number, and eight steps.
func TestTakeIsEightSteps(t *testing.T) {
	for _, s := range someSums() {
		for c := range 256 {
			r := s ^ uint32(c)
			for range 8 {
				r = crc.Step(r)
			}
			if got := crc.Take(s, byte(c)); got != r {
				t.Errorf("Take(%08x, %02x) = %08x; eight steps make %08x", s, c, got, r)
			}
		}
	}
}

func TestOfKnownSums(t *testing.T) {
	up, down := make([]byte, 32), make([]byte, 32)
	for i := range 32 {
		up[i], down[31-i] = byte(i), byte(i)
	}
	wantOf(t, []byte{}, 0)
	wantOf(t, []byte("a"), 0xc1d04330)
	wantOf(t, make([]byte, 32), 0x8a9136aa)
	wantOf(t, bytes.Repeat([]byte{0xff}, 32), 0x62a8ab43)
	wantOf(t, up, 0x46dd794e)
	wantOf(t, down, 0x113fdb5c)
}

func TestOfEachLength(t *testing.T) {
	table := crc32.MakeTable(crc32.Castagnoli)
	for many := range 300 {
		b := someBytes(many)
		wantOf(t, b, more(0, b))
		wantOf(t, b, crc32.Checksum(b, table))
	}
	long := someBytes(1<<20 + 5)
	wantOf(t, long, crc32.Checksum(long, table))
}

func TestMoreOfEachSum(t *testing.T) {
	for _, s := range someSums() {
		for _, b := range [][]byte{{0}, {1}, {0x80}, {0xff}, someBytes(2), someBytes(3), someBytes(4), someBytes(5), someBytes(64), someBytes(91)} {
			wantMore(t, s, b, more(s, b))
		}
	}
}

// No bytes leave the sum as it is: the bits turned twice.
func TestMoreOfNothing(t *testing.T) {
	for _, s := range someSums() {
		wantMore(t, s, nil, s)
		wantMore(t, s, []byte{}, s)
		wantMore(t, s, []byte{1, 2, 3}[:0], s)
	}
}

func TestOfIsMoreOfZero(t *testing.T) {
	for many := range 100 {
		b := someBytes(many)
		wantOf(t, b, crc.More(0, b))
	}
}

// What stands in the room behind the end is none of the bytes.
func TestReadsNoRoomBehindTheEnd(t *testing.T) {
	room := someBytes(40)
	for end := range room {
		other := slices.Clone(room)
		for i := end; i < len(other); i++ {
			other[i] ^= 0xff
		}
		wantOf(t, other[:end], crc.Of(room[:end]))
		wantMore(t, 5, other[:end], crc.More(5, room[:end]))
	}
}

// P2.2 (Zeros): from here on.

func TestZerosOfEachSum(t *testing.T) {
	for _, s := range someSums() {
		for _, n := range []int{0, 1, 2, 3, 4, 5, 7, 8, 9, 31, 32, 33, 63, 64, 65, 255, 256, 257} {
			wantZeros(t, s, n, more(s, make([]byte, n)))
		}
	}
}

func TestZerosIsMoreOfZeros(t *testing.T) {
	b := make([]byte, maxZeros)
	for _, s := range []uint32{0, 1, 0x80000000, 0x12345678, 0xffffffff} {
		for _, n := range []int{0, 1, 1000, 65535, 65536, 65537, maxZeros / 2, maxZeros - 1, maxZeros} {
			wantZeros(t, s, n, crc.More(s, b[:n]))
		}
	}
}

func TestZerosOfNone(t *testing.T) {
	for _, s := range someSums() {
		wantZeros(t, s, 0, s)
	}
}

func TestZerosOfWrongCount(t *testing.T) {
	const top = int(^uint(0) >> 1)
	for _, s := range []uint32{0, 1, 0x8a9136aa, 0xffffffff} {
		for _, n := range []int{-1, -2, -32, -maxZeros, -top, -top - 1, maxZeros + 1, maxZeros + 2, 2 * maxZeros, top - 1, top} {
			wantNoZeros(t, s, n)
		}
	}
}

// P2.3 (what follows): from here on.

// However bytes are cut in two, and in three, the sum goes on behind each piece.
func TestSumGoesOn(t *testing.T) {
	for _, many := range []int{0, 1, 2, 9, 64, 91} {
		b := someBytes(many)
		whole := crc.Of(b)
		for i := 0; i <= many; i++ {
			wantMore(t, crc.Of(b[:i]), b[i:], whole)
			for j := i; j <= many; j++ {
				wantMore(t, crc.More(crc.Of(b[:i]), b[i:j]), b[j:], whole)
			}
		}
	}
}

func TestSumGoesOnByteByByte(t *testing.T) {
	b := someBytes(500)
	sum := crc.Of(nil)
	for i, c := range b {
		wantOf(t, b[:i], sum)
		sum = crc.More(sum, []byte{c})
	}
	wantOf(t, b, sum)
}

// Zeros go on as bytes 0 do: behind bytes, and ahead of others.
func TestSumGoesOnOverZeros(t *testing.T) {
	for _, many := range []int{0, 1, 9, 64} {
		b := someBytes(many)
		for n := range 70 {
			sum, e := crc.Zeros(crc.Of(b), n)
			if e != api.OK {
				t.Fatalf("Zeros of %d: %v", n, e)
			}
			wantOf(t, append(slices.Clone(b), make([]byte, n)...), sum)
			wantOf(t, slices.Concat(b, make([]byte, n), b), crc.More(sum, b))
		}
	}
}

// Of bytes that differ in one row of up to four, the sums differ: each single
// byte in each way, at each place.
func TestOneByteChanged(t *testing.T) {
	for _, many := range []int{1, 2, 5, 64} {
		b := someBytes(many)
		whole := crc.Of(b)
		for i := range b {
			for x := 1; x < 256; x++ {
				b[i] ^= byte(x)
				if crc.Of(b) == whole {
					t.Errorf("%d bytes, byte %d against %02x: the same sum", many, i, x)
				}
				b[i] ^= byte(x)
			}
		}
	}
}

// changes are numbers of 32 bits, as changes of a row of four bytes: each bit,
// each two bits, and others; those whose first or last bytes are 0 are changes
// of shorter rows.
func changes() []uint32 {
	var l []uint32
	for i := range 32 {
		l = append(l, 1<<i)
		for j := range i {
			l = append(l, 1<<i|1<<j)
		}
	}
	for _, s := range someSums() {
		l = append(l, s, s&0xff, s&0xffff, s&0xffffff, s&0xffff00)
	}
	return slices.DeleteFunc(l, func(n uint32) bool { return n == 0 })
}

func TestRowOfFourChanged(t *testing.T) {
	for _, many := range []int{4, 5, 9, 64} {
		b := someBytes(many)
		whole := crc.Of(b)
		for i := 0; i+4 <= many; i++ {
			for _, x := range changes() {
				c := slices.Clone(b)
				for k := range 4 {
					c[i+k] ^= byte(x >> (8 * k))
				}
				if crc.Of(c) == whole {
					t.Errorf("%d bytes, from byte %d on against %08x: the same sum", many, i, x)
				}
			}
		}
	}
}

// Rows of two bytes, wholly: no two of them have one sum, whatever stands ahead.
func TestRowsOfTwoAllDiffer(t *testing.T) {
	for _, ahead := range [][]byte{nil, {7}, someBytes(60)} {
		seen := map[uint32]int{}
		b := append(slices.Clone(ahead), 0, 0, 9, 9)
		for n := range 1 << 16 {
			b[len(ahead)], b[len(ahead)+1] = byte(n), byte(n>>8)
			seen[crc.Of(b)]++
		}
		if len(seen) != 1<<16 {
			t.Errorf("behind %d bytes: %d sums of 65536 rows", len(ahead), len(seen))
		}
	}
}

// Bytes with their sum behind them, the lowest byte first, have one sum,
// whatever they are; the bits of the sum turned make all bits 1.
func TestBytesWithTheirSum(t *testing.T) {
	for many := range 130 {
		b := someBytes(many)
		sum := crc.Of(b)
		wantOf(t, behind(b, sum), 0x48674bc7)
		wantOf(t, behind(b, ^sum), 0xffffffff)
		wantMore(t, sum, behind(nil, sum), 0x48674bc7)
	}
}

// A change of a row within bytes and their sum shows, the sum's own bytes too.
func TestBytesWithTheirSumChanged(t *testing.T) {
	b := behind(someBytes(20), crc.Of(someBytes(20)))
	for i := range b {
		for width := 1; width <= 4 && i+width <= len(b); width++ {
			c := slices.Clone(b)
			for k := range width {
				c[i+k] ^= byte(0xff - k)
			}
			if crc.Of(c) == crc.Of(b) {
				t.Errorf("%d bytes changed from byte %d on: the same sum", width, i)
			}
		}
	}
}

// What is handed in stays as it is, the room behind its end too.
func TestArgumentsStay(t *testing.T) {
	room := someBytes(80)
	kept := slices.Clone(room)
	for end := range len(room) + 1 {
		crc.Of(room[:end])
		for _, s := range []uint32{0, 1, 0xffffffff} {
			crc.More(s, room[:end])
		}
	}
	if !bytes.Equal(room, kept) {
		t.Error("what was handed in is another one")
	}
}

// What a call answers hangs on what it was given alone.
func TestAnswersAgain(t *testing.T) {
	b := someBytes(40)
	first := crc.Of(b)
	crc.More(first, someBytes(7))
	crc.Zeros(first, 9)
	crc.Zeros(first, -1)
	crc.Step(first)
	crc.Take(first, 200)
	wantOf(t, b, first)
	wantOf(t, nil, 0)
}
