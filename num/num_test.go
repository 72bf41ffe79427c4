package num_test

import (
	"bytes"
	"slices"
	"testing"

	"ashlar/api"
	"ashlar/num"
)

const maxMany = 1 << 20

// below answers 256 to the power of a size of 1 to 7.
func below(size int) uint64 { return 1 << (8 * size) }

// greatest answers the greatest number of a size of 1 to 8.
func greatest(size int) uint64 {
	if size == 8 {
		return 1<<64 - 1
	}
	return below(size) - 1
}

// wrongWidths are sizes and widths that are none: one beyond on both sides,
// and some where a sum or a product would leave what an int holds.
func wrongWidths() []int {
	const top = int(^uint(0) >> 1)
	return []int{0, 9, -1, -8, 10, 16, 64, 256, 257, top, top - 7, -top, -top - 1, 1 << 29}
}

func wantPut(t *testing.T, n uint64, size int, want []byte) {
	t.Helper()
	b, e := num.Put(n, size)
	if e != api.OK || !bytes.Equal(b, want) {
		t.Errorf("Put(%d, %d) = %x, %v; want %x", n, size, b, e, want)
	}
}

func wantNoPut(t *testing.T, n uint64, size int) {
	t.Helper()
	if b, e := num.Put(n, size); e != api.ErrArg || len(b) != 0 {
		t.Errorf("Put(%d, %d) = %x, %v; want ErrArg", n, size, b, e)
	}
}

func wantGet(t *testing.T, b []byte, at, size int, want uint64, wantE api.Errno) {
	t.Helper()
	if n, e := num.Get(b, at, size); n != want || e != wantE {
		t.Errorf("Get(%x, %d, %d) = %d, %v; want %d, %v", b, at, size, n, e, want, wantE)
	}
}

// P1.1 (Put, Get): from here on.

func TestPutExamples(t *testing.T) {
	wantPut(t, 258, 2, []byte{2, 1})
	wantNoPut(t, 256, 1)
	wantNoPut(t, 1, 9)
}

func TestGetExamples(t *testing.T) {
	wantGet(t, []byte{2, 1, 5}, 0, 2, 258, api.OK)
	wantGet(t, []byte{2, 1}, 1, 2, 0, api.ErrShort)
	wantGet(t, []byte{2}, 2, 1, 0, api.ErrArg)
}

func TestPutOfEachSize(t *testing.T) {
	all := []byte{8, 7, 6, 5, 4, 3, 2, 1}
	for size := 1; size <= 8; size++ {
		n := uint64(0x0102030405060708)
		if size < 8 {
			n %= below(size)
		}
		wantPut(t, n, size, all[:size])
		wantPut(t, 0, size, make([]byte, size))
		wantPut(t, greatest(size), size, bytes.Repeat([]byte{0xff}, size))
		high := make([]byte, size)
		high[size-1] = 0x80
		wantPut(t, greatest(size)/2+1, size, high)
	}
}

func TestPutOfTooGreatNumber(t *testing.T) {
	for size := 1; size <= 7; size++ {
		wantNoPut(t, below(size), size)
		wantNoPut(t, below(size)+1, size)
		wantNoPut(t, 1<<63, size)
		wantNoPut(t, 1<<64-1, size)
	}
}

func TestPutOfWrongSize(t *testing.T) {
	for _, size := range wrongWidths() {
		for _, n := range []uint64{0, 1, 1<<64 - 1} {
			wantNoPut(t, n, size)
		}
	}
}

func TestGetOfEachSizeAtEachPlace(t *testing.T) {
	b := []byte{0xf1, 0x12, 0xf3, 0x14, 0xf5, 0x16, 0xf7, 0x18, 0xf9, 0x1a}
	for size := 1; size <= 8; size++ {
		for at := 0; at <= len(b); at++ {
			if at+size > len(b) {
				wantGet(t, b, at, size, 0, api.ErrShort)
				continue
			}
			var want uint64
			for i := size - 1; i >= 0; i-- {
				want = want*256 + uint64(b[at+i])
			}
			wantGet(t, b, at, size, want, api.OK)
		}
	}
}

func TestGetOfGreatest(t *testing.T) {
	for size := 1; size <= 8; size++ {
		wantGet(t, bytes.Repeat([]byte{0xff}, size), 0, size, greatest(size), api.OK)
		wantGet(t, bytes.Repeat([]byte{0xff}, 12), 2, size, greatest(size), api.OK)
	}
}

func TestGetOfWrongPlace(t *testing.T) {
	const top = int(^uint(0) >> 1)
	for _, b := range [][]byte{nil, {}, {1}, {1, 2, 3, 4, 5, 6, 7, 8}} {
		for _, at := range []int{-1, -8, len(b) + 1, len(b) + 8, top, top - 7, -top - 1} {
			for size := 1; size <= 8; size++ {
				wantGet(t, b, at, size, 0, api.ErrArg)
			}
		}
	}
}

func TestGetAtTheVeryEnd(t *testing.T) {
	for _, b := range [][]byte{nil, {}, {7}, {7, 7, 7}} {
		for size := 1; size <= 8; size++ {
			wantGet(t, b, len(b), size, 0, api.ErrShort)
		}
	}
}

// A wrong size is told ahead of bytes that are too few.
func TestGetOfWrongSize(t *testing.T) {
	for _, size := range wrongWidths() {
		for _, b := range [][]byte{nil, {1}, make([]byte, 300)} {
			for _, at := range []int{-1, 0, len(b), len(b) + 1} {
				wantGet(t, b, at, size, 0, api.ErrArg)
			}
		}
	}
}

// What stands in the room behind the end is none of the bytes.
func TestGetReadsNoRoomBehindTheEnd(t *testing.T) {
	room := []byte{1, 2, 3, 4}
	wantGet(t, room[:2], 1, 2, 0, api.ErrShort)
	wantGet(t, room[:2], 3, 1, 0, api.ErrArg)
	wantGet(t, room[:0], 0, 1, 0, api.ErrShort)
}

// P1.3 (what follows): what is put is got, wherever it stands.
func TestPutThenGet(t *testing.T) {
	for size := 1; size <= 8; size++ {
		last := greatest(size)
		for _, n := range []uint64{0, 1, 2, 127, 128, 254, 255, last / 2, last/2 + 1, last - 1, last, 0x8192a3b4c5d6e7f8 & last} {
			b, e := num.Put(n, size)
			if e != api.OK {
				t.Fatalf("Put(%d, %d): %v", n, size, e)
			}
			for ahead := range 4 {
				for behind := range 4 {
					whole := slices.Concat(bytes.Repeat([]byte{0xa5}, ahead), b, bytes.Repeat([]byte{0x5a}, behind))
					wantGet(t, whole, ahead, size, n, api.OK)
				}
			}
		}
	}
}

// P1.2 (Bits, Unbits): from here on.

// packed lays numbers bit by bit, as the promise's words say.
func packed(l []uint8, width int) []byte {
	var bits []byte
	for _, n := range l {
		for range width {
			bits = append(bits, n%2)
			n /= 2
		}
	}
	for len(bits)%8 != 0 {
		bits = append(bits, 0)
	}
	var out []byte
	for i := 0; i < len(bits); i += 8 {
		c := 0
		for j := 7; j >= 0; j-- {
			c = 2*c + int(bits[i+j])
		}
		out = append(out, byte(c))
	}
	return out
}

// some answers so many numbers of a width, of all kinds.
func some(many, width int) []uint8 {
	l := make([]uint8, many)
	n := uint32(12345 + width)
	for i := range l {
		n = n*1664525 + 1013904223
		l[i] = uint8(n >> 24 >> (8 - width))
	}
	return l
}

func wantBits(t *testing.T, l []uint8, width int, want []byte) {
	t.Helper()
	b, e := num.Bits(l, width)
	if e != api.OK || !bytes.Equal(b, want) {
		t.Errorf("Bits(%v, %d) = %x, %v; want %x", l, width, b, e, want)
	}
}

func wantNoBits(t *testing.T, l []uint8, width int) {
	t.Helper()
	if b, e := num.Bits(l, width); e != api.ErrArg || len(b) != 0 {
		t.Errorf("Bits(%v, %d) = %x, %v; want ErrArg", l, width, b, e)
	}
}

func wantUnbits(t *testing.T, b []byte, width, many int, want []uint8) {
	t.Helper()
	l, e := num.Unbits(b, width, many)
	if e != api.OK || !slices.Equal(l, want) {
		t.Errorf("Unbits(%x, %d, %d) = %v, %v; want %v", b, width, many, l, e, want)
	}
}

func wantNoUnbits(t *testing.T, b []byte, width, many int, want api.Errno) {
	t.Helper()
	if l, e := num.Unbits(b, width, many); e != want || len(l) != 0 {
		t.Errorf("Unbits(%d bytes, %d, %d) = %d numbers, %v; want %v", len(b), width, many, len(l), e, want)
	}
}

func TestBitsExamples(t *testing.T) {
	wantBits(t, []uint8{1, 2, 3}, 2, []byte{0x39})
	wantNoBits(t, []uint8{4}, 2)
	wantBits(t, []uint8{5, 1}, 7, []byte{0x85, 0})
}

func TestUnbitsExamples(t *testing.T) {
	wantUnbits(t, []byte{0x39}, 2, 3, []uint8{1, 2, 3})
	wantNoUnbits(t, []byte{0x39}, 2, 5, api.ErrShort)
}

// One number behind another of each width: where the first ends in a byte, the
// next one begins above it and reaches on into the next byte.
func TestBitsOfEachWidth(t *testing.T) {
	for width := 1; width <= 8; width++ {
		top := uint8(1<<width - 1)
		for many := range 20 {
			wantBits(t, some(many, width), width, packed(some(many, width), width))
			full := bytes.Repeat([]byte{top}, many)
			wantBits(t, full, width, packed(full, width))
			wantBits(t, make([]byte, many), width, make([]byte, (many*width+7)/8))
		}
	}
}

// Each single number alone, behind each count of others: no bit of it strays.
func TestBitsOfEachNumber(t *testing.T) {
	for width := 1; width <= 8; width++ {
		for n := range 1 << width {
			for ahead := range 9 {
				l := append(make([]uint8, ahead), uint8(n), 0)
				want := packed(l, width)
				wantBits(t, l, width, want)
				wantUnbits(t, want, width, len(l), l)
			}
		}
	}
}

func TestBitsOfByteWidthIsTheList(t *testing.T) {
	l := []uint8{0, 1, 127, 128, 255}
	wantBits(t, l, 8, l)
	wantUnbits(t, l, 8, len(l), l)
}

func TestBitsOfTooGreatNumber(t *testing.T) {
	for width := 1; width <= 7; width++ {
		for many := 1; many <= 9; many++ {
			for i := range many {
				for _, n := range []uint8{1 << width, 1<<width + 1, 1 << 7, 255} {
					l := make([]uint8, many)
					l[i] = n
					wantNoBits(t, l, width)
				}
			}
		}
	}
}

func TestBitsOfWrongWidth(t *testing.T) {
	for _, width := range wrongWidths() {
		for _, l := range [][]uint8{nil, {}, {0}, {1, 2, 3}, make([]uint8, 300)} {
			wantNoBits(t, l, width)
		}
	}
}

func TestBitsOfNothing(t *testing.T) {
	for width := 1; width <= 8; width++ {
		wantBits(t, nil, width, nil)
		wantBits(t, []uint8{}, width, nil)
		wantUnbits(t, nil, width, 0, nil)
		wantUnbits(t, []byte{}, width, 0, nil)
		wantUnbits(t, []byte{0xff}, width, 0, nil)
	}
}

// The limit of Unbits is none of Bits.
func TestBitsOfManyNumbers(t *testing.T) {
	for _, width := range []int{1, 3, 8} {
		l := some(maxMany+3, width)
		b, e := num.Bits(l, width)
		if e != api.OK || !bytes.Equal(b, packed(l, width)) {
			t.Errorf("Bits of %d numbers of width %d: %d bytes, %v", len(l), width, len(b), e)
		}
	}
}

func TestUnbitsOfEachWidth(t *testing.T) {
	for width := 1; width <= 8; width++ {
		for many := range 20 {
			l := some(many, width)
			wantUnbits(t, packed(l, width), width, many, l)
		}
	}
}

// Each count of bytes below what the numbers take is too few; just as many are enough.
func TestUnbitsOfTooFewBytes(t *testing.T) {
	for width := 1; width <= 8; width++ {
		for many := 1; many <= 20; many++ {
			need := (many*width + 7) / 8
			for has := range need {
				wantNoUnbits(t, make([]byte, has), width, many, api.ErrShort)
			}
			wantUnbits(t, make([]byte, need), width, many, make([]uint8, many))
		}
	}
}

// What stands behind the numbers is not asked: in the last byte and behind it.
func TestUnbitsIgnoresWhatStandsBehind(t *testing.T) {
	for width := 1; width <= 8; width++ {
		for many := range 20 {
			l := some(many, width)
			b := packed(l, width)
			if rest := many * width % 8; rest != 0 {
				b[len(b)-1] |= 0xff << rest
			}
			wantUnbits(t, b, width, many, l)
			wantUnbits(t, append(b, 0xff, 0x81), width, many, l)
		}
	}
}

func TestUnbitsReadsNoRoomBehindTheEnd(t *testing.T) {
	room := []byte{0xff, 0xff, 0xff, 0xff}
	wantNoUnbits(t, room[:1], 3, 3, api.ErrShort)
	wantNoUnbits(t, room[:0], 8, 1, api.ErrShort)
}

func TestUnbitsOfMany(t *testing.T) {
	for width := 1; width <= 8; width++ {
		need := maxMany / 8 * width
		l := some(maxMany, width)
		b := packed(l, width)
		if got, e := num.Unbits(b, width, maxMany); e != api.OK || !slices.Equal(got, l) {
			t.Errorf("Unbits of 2^20 numbers of width %d: %d numbers, %v", width, len(got), e)
		}
		wantNoUnbits(t, b[:need-1], width, maxMany, api.ErrShort)
		wantNoUnbits(t, make([]byte, need+8), width, maxMany+1, api.ErrArg)
	}
}

// A wrong width or count is told ahead of bytes that are too few.
func TestUnbitsOfWrongArguments(t *testing.T) {
	const top = int(^uint(0) >> 1)
	for _, b := range [][]byte{nil, {}, {0x39}, make([]byte, 300)} {
		for _, width := range wrongWidths() {
			for _, many := range []int{-1, 0, 1, 2400, maxMany, maxMany + 1, top} {
				wantNoUnbits(t, b, width, many, api.ErrArg)
			}
		}
		for width := 1; width <= 8; width++ {
			for _, many := range []int{-1, -8, -top - 1, maxMany + 1, top, top - 7, top/8 + 1} {
				wantNoUnbits(t, b, width, many, api.ErrArg)
			}
		}
	}
}

// P1.3 (what follows): Unbits of Bits is the list.
func TestUnbitsOfBits(t *testing.T) {
	for width := 1; width <= 8; width++ {
		for _, many := range []int{0, 1, 7, 8, 9, 63, 64, 65, 1000, 4099} {
			l := some(many, width)
			b, e := num.Bits(l, width)
			if e != api.OK {
				t.Fatalf("Bits of %d numbers of width %d: %v", many, width, e)
			}
			wantUnbits(t, b, width, many, l)
		}
	}
}

// What is handed in stays as it is, the room behind its end too.
func TestArgumentsStay(t *testing.T) {
	for width := 1; width <= 8; width++ {
		room := some(40, width)
		kept := slices.Clone(room)
		for _, end := range []int{0, 1, 16, 19} {
			num.Bits(room[:end], width)
			num.Bits(room[:end], 1)
			num.Bits(room[:end], 9)
			num.Unbits(room[:end], width, end)
			num.Unbits(room[:end], width, 40)
			num.Unbits(room[:end], width, -1)
			num.Get(room[:end], end/2, width)
			num.Get(room[:end], end, width)
			num.Get(room[:end], end+1, width)
			if !bytes.Equal(room, kept) {
				t.Fatalf("width %d, end %d: what was handed in is another one", width, end)
			}
		}
	}
}

// fill makes all that a list has room for another one.
func fill(b []byte) {
	b = b[:cap(b)]
	for i := range b {
		b[i] ^= 0xff
	}
}

// Answers are new memory: what becomes of one touches no argument, and no
// answer that comes later or came ahead.
func TestAnswersShareNothing(t *testing.T) {
	for width := 1; width <= 8; width++ {
		for _, many := range []int{0, 1, 8, 19} {
			l := some(many, width)
			first, _ := num.Bits(l, width)
			second, _ := num.Bits(l, width)
			fill(first)
			if !bytes.Equal(l, some(many, width)) || !bytes.Equal(second, packed(l, width)) {
				t.Errorf("width %d: an answer of Bits shares memory", width)
			}
			wantBits(t, l, width, packed(l, width))

			b := packed(l, width)
			one, _ := num.Unbits(b, width, many)
			two, _ := num.Unbits(b, width, many)
			fill(one)
			if !bytes.Equal(b, packed(l, width)) || !slices.Equal(two, l) {
				t.Errorf("width %d: an answer of Unbits shares memory", width)
			}
			wantUnbits(t, b, width, many, l)
		}
		first, _ := num.Put(1, width)
		second, _ := num.Put(1, width)
		fill(first)
		if second[0] != 1 {
			t.Errorf("size %d: an answer of Put shares memory", width)
		}
		wantPut(t, 1, width, append([]byte{1}, make([]byte, width-1)...))
	}
}
