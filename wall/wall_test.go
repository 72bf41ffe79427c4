package wall_test

import (
	"slices"
	"testing"

	"ashlar/api"
	"ashlar/wall"
)

const (
	top    = int(^uint(0) >> 1)
	bottom = -top - 1
)

// all answers a block of one byte, again and again.
func all(c byte) api.Block {
	var b api.Block
	for i := range b {
		b[i] = c
	}
	return b
}

// only answers a block of bytes 0 but for one of them.
func only(at int, c byte) api.Block {
	var b api.Block
	b[at] = c
	return b
}

// some answers a block of all kinds of bytes, another one for each seed.
func some(seed int) api.Block {
	var b api.Block
	n := uint32(seed)*2654435761 + 12345
	for i := range b {
		n = n*1664525 + 1013904223
		b[i] = byte(n >> 24)
	}
	return b
}

// list answers so many blocks of all kinds.
func list(many int) []api.Block {
	var l []api.Block
	for i := range many {
		l = append(l, some(many*100+i))
	}
	return l
}

// edges are blocks of the edges, and some others.
func edges() []api.Block {
	return []api.Block{
		{}, all(1), all(0x0f), all(0x80), all(0xff),
		only(0, 1), only(0, 0x80), only(0, 0xff), only(1, 1), only(31, 7), only(32, 7), only(62, 0x80),
		only(63, 1), only(63, 0x80), only(63, 0xff), some(1), some(2), some(3),
	}
}

// lists are lists of no block, of one, and of several, as many as an array may
// have members, and more; of other blocks, of like ones, of blocks of 0.
func lists() [][]api.Block {
	out := [][]api.Block{nil, {}, edges(), {{}}, {{}, {}}, {some(4), some(4)}, {some(5), some(6), some(5)}, {only(0, 1), only(63, 0x80)}}
	for _, b := range edges() {
		out = append(out, []api.Block{b})
	}
	for many := range 18 {
		out = append(out, list(many))
	}
	return append(out, list(100))
}

// parity is the parity of blocks, as the document's words say it: column by
// column, each bit 1 where an odd number of them has it.
func parity(l []api.Block) api.Block {
	var out api.Block
	for i := range out {
		for bit := range 8 {
			odd := 0
			for _, b := range l {
				odd += int(b[i] >> bit & 1)
			}
			out[i] |= byte(odd % 2 << bit)
		}
	}
	return out
}

// others answers a list without its n-th block.
func others(l []api.Block, n int) []api.Block {
	return slices.Delete(slices.Clone(l), n, n+1)
}

// instead answers a list with another block in the n-th one's place.
func instead(l []api.Block, n int, b api.Block) []api.Block {
	out := slices.Clone(l)
	out[n] = b
	return out
}

func want(t *testing.T, what string, got, want api.Block) {
	t.Helper()
	if got != want {
		t.Errorf("%s = %x; want %x", what, got, want)
	}
}

func wantMissing(t *testing.T, l []api.Block, n int, b api.Block) {
	t.Helper()
	if got, e := wall.Missing(l, n); got != b || e != api.OK {
		t.Errorf("Missing(%d blocks, %d) = %x, %v; want %x", len(l), n, got, e, b)
	}
}

func wantNoMissing(t *testing.T, l []api.Block, n int) {
	t.Helper()
	if got, e := wall.Missing(l, n); got != (api.Block{}) || e != api.ErrArg {
		t.Errorf("Missing(%d blocks, %d) = %x, %v; want 0, ErrArg", len(l), n, got, e)
	}
}

func wantZero(t *testing.T, b api.Block, zero bool) {
	t.Helper()
	if got := wall.Zero(b); got != zero {
		t.Errorf("Zero(%x) = %v", b, got)
	}
}

func TestExamples(t *testing.T) {
	want(t, "Xor", wall.Xor(all(0x0f), all(0x3c)), all(0x33))
	want(t, "Fold of none", wall.Fold(nil), api.Block{})
	wantMissing(t, []api.Block{all(1), all(2), all(3)}, 1, all(2))
	wantNoMissing(t, nil, 0)
	b := all(0x11)
	b[0] = 0x22
	want(t, "Torn", wall.Torn(all(0x11), all(0x22), 1), b)
}

// P3.1 (Xor, Fold, Delta, Zero): from here on.

// Each two bytes, at each place of a block.
func TestXorOfEachTwoBytes(t *testing.T) {
	for x := range 256 {
		for y := range 256 {
			var a, b, c api.Block
			for i := range a {
				a[i], b[i] = byte(x+i), byte(y+3*i)
				c[i] = (a[i] | b[i]) - (a[i] & b[i])
			}
			want(t, "Xor", wall.Xor(a, b), c)
		}
	}
}

// Each byte is laid against the one of its own place alone.
func TestXorOfOneByte(t *testing.T) {
	for i := range api.Size {
		want(t, "Xor with 0", wall.Xor(only(i, 0xa5), api.Block{}), only(i, 0xa5))
		want(t, "Xor with 0", wall.Xor(api.Block{}, only(i, 0xa5)), only(i, 0xa5))
		for j := range api.Size {
			b := only(i, 0xa5)
			b[j] ^= 0x81
			want(t, "Xor", wall.Xor(only(i, 0xa5), only(j, 0x81)), b)
		}
	}
}

func TestXorOfEdges(t *testing.T) {
	for _, a := range edges() {
		want(t, "Xor with itself", wall.Xor(a, a), api.Block{})
		want(t, "Xor with 0", wall.Xor(a, api.Block{}), a)
		for _, b := range edges() {
			want(t, "Xor", wall.Xor(a, b), parity([]api.Block{a, b}))
			want(t, "Xor turned", wall.Xor(b, a), wall.Xor(a, b))
			want(t, "Xor twice", wall.Xor(wall.Xor(a, b), b), a)
		}
	}
}

func TestFoldOfNone(t *testing.T) {
	want(t, "Fold", wall.Fold(nil), api.Block{})
	want(t, "Fold", wall.Fold([]api.Block{}), api.Block{})
	want(t, "Fold", wall.Fold(list(3)[:0]), api.Block{})
}

func TestFoldOfOne(t *testing.T) {
	for _, b := range edges() {
		want(t, "Fold", wall.Fold([]api.Block{b}), b)
	}
}

func TestFoldByHand(t *testing.T) {
	want(t, "Fold", wall.Fold([]api.Block{all(1), all(2), all(4)}), all(7))
	want(t, "Fold", wall.Fold([]api.Block{all(1), all(2), all(3)}), api.Block{})
	want(t, "Fold", wall.Fold([]api.Block{all(5), all(5)}), api.Block{})
	want(t, "Fold", wall.Fold([]api.Block{all(5), all(5), all(5)}), all(5))
	want(t, "Fold", wall.Fold([]api.Block{all(0xf0), all(0x3c), all(0xff), all(0x80)}), all(0xb3))
	b := only(0, 0x80)
	b[63] = 1
	want(t, "Fold", wall.Fold([]api.Block{only(0, 0x80), only(63, 1)}), b)
}

func TestFoldOfLists(t *testing.T) {
	for _, l := range lists() {
		want(t, "Fold", wall.Fold(l), parity(l))
	}
}

// What stands in the room behind the end is none of the blocks.
func TestReadsNoRoomBehindTheEnd(t *testing.T) {
	room := list(9)
	for end := range len(room) + 1 {
		want(t, "Fold", wall.Fold(room[:end]), parity(room[:end]))
		for n := range end {
			wantMissing(t, room[:end], n, parity(others(room[:end], n)))
		}
		wantNoMissing(t, room[:end], end)
	}
}

func TestDeltaOfEdges(t *testing.T) {
	for _, a := range edges() {
		for _, b := range edges() {
			for _, c := range edges() {
				want(t, "Delta", wall.Delta(a, b, c), parity([]api.Block{a, b, c}))
			}
		}
	}
}

func TestDeltaByHand(t *testing.T) {
	want(t, "Delta", wall.Delta(all(7), all(1), all(8)), all(14))
	want(t, "Delta of no change", wall.Delta(all(7), all(1), all(1)), all(7))
	want(t, "Delta of a block of 0", wall.Delta(all(7), api.Block{}, all(0xf0)), all(0xf7))
	want(t, "Delta to a block of 0", wall.Delta(all(7), all(1), api.Block{}), all(6))
}

func TestZeroOfZero(t *testing.T) {
	wantZero(t, api.Block{}, true)
	wantZero(t, all(0), true)
	wantZero(t, wall.Xor(some(9), some(9)), true)
}

// One bit alone makes a block another one, at the first byte, at the last one,
// and between.
func TestZeroOfOneBit(t *testing.T) {
	for i := range api.Size {
		for bit := range 8 {
			wantZero(t, only(i, 1<<bit), false)
		}
		wantZero(t, only(i, 0xff), false)
		b := all(9)
		b[i] = 0
		wantZero(t, b, false)
	}
}

// Bytes whose sum, or whose parity, is 0 are not 0.
func TestZeroOfBytesThatMakeZero(t *testing.T) {
	b := only(0, 0x80)
	b[63] = 0x80
	wantZero(t, b, false)
	wantZero(t, all(4), false)
	wantZero(t, all(0xff), false)
}

// P3.2 (Missing, Torn): from here on.

func TestMissingOfNone(t *testing.T) {
	for _, l := range [][]api.Block{nil, {}, list(4)[:0]} {
		for _, n := range []int{0, 1, -1, 2, top, bottom} {
			wantNoMissing(t, l, n)
		}
	}
}

// The others of one alone are none.
func TestMissingOfOne(t *testing.T) {
	for _, b := range edges() {
		wantMissing(t, []api.Block{b}, 0, api.Block{})
		wantNoMissing(t, []api.Block{b}, 1)
		wantNoMissing(t, []api.Block{b}, -1)
	}
}

func TestMissingByHand(t *testing.T) {
	l := []api.Block{all(1), all(2), all(4), all(8)}
	wantMissing(t, l, 0, all(14))
	wantMissing(t, l, 1, all(13))
	wantMissing(t, l, 2, all(11))
	wantMissing(t, l, 3, all(7))
	wantMissing(t, l[:2], 0, all(2))
	wantMissing(t, l[:2], 1, all(1))
}

// Each one of a list, the first and the last of them, and one beyond on both
// sides, and far beyond.
func TestMissingOfLists(t *testing.T) {
	for _, l := range lists() {
		for n := range l {
			wantMissing(t, l, n, parity(others(l, n)))
		}
		for _, n := range []int{-1, -2, -len(l) - 1, len(l), len(l) + 1, 2*len(l) + 1, top - 1, top, bottom, bottom + 1} {
			wantNoMissing(t, l, n)
		}
	}
}

// What the n-th one is has no part in what the others tell.
func TestMissingDoesNotReadTheMissing(t *testing.T) {
	for _, l := range lists() {
		for n := range l {
			first, _ := wall.Missing(l, n)
			for _, b := range edges() {
				wantMissing(t, instead(l, n, b), n, first)
			}
		}
	}
}

func TestTornOfEachCount(t *testing.T) {
	for _, old := range edges() {
		for _, now := range edges() {
			for n := range api.Size + 1 {
				var b api.Block
				for i := range b {
					b[i] = old[i]
					if i < n {
						b[i] = now[i]
					}
				}
				want(t, "Torn", wall.Torn(old, now, n), b)
			}
		}
	}
}

func TestTornOfNoByte(t *testing.T) {
	for _, n := range []int{0, -1, -2, -api.Size, -api.Size - 1, bottom + 1, bottom} {
		want(t, "Torn", wall.Torn(all(0x11), all(0x22), n), all(0x11))
		want(t, "Torn", wall.Torn(some(1), some(2), n), some(1))
	}
}

func TestTornOfOneByte(t *testing.T) {
	want(t, "Torn", wall.Torn(api.Block{}, all(0x22), 1), only(0, 0x22))
	want(t, "Torn", wall.Torn(all(0x22), api.Block{}, 1), wall.Xor(all(0x22), only(0, 0x22)))
	want(t, "Torn of all but one", wall.Torn(all(0x22), api.Block{}, api.Size-1), only(63, 0x22))
}

func TestTornOfAllBytes(t *testing.T) {
	for _, n := range []int{api.Size, api.Size + 1, api.Size + 2, 2 * api.Size, top - 1, top} {
		want(t, "Torn", wall.Torn(all(0x11), all(0x22), n), all(0x22))
		want(t, "Torn", wall.Torn(some(1), some(2), n), some(2))
	}
}

// A block torn with itself is whole.
func TestTornOfTheSame(t *testing.T) {
	for _, b := range edges() {
		for n := -2; n <= api.Size+2; n++ {
			want(t, "Torn", wall.Torn(b, b, n), b)
		}
	}
}

// P3.3 (what follows): from here on.

// Each block of a list, and its parity, is told by the others.
func TestEachOneIsToldByTheOthers(t *testing.T) {
	for _, l := range lists() {
		row := append(slices.Clone(l), wall.Fold(l))
		for n, b := range row {
			wantMissing(t, row, n, b)
			wantMissing(t, instead(row, n, some(77)), n, b)
		}
		want(t, "Fold of a row", wall.Fold(row), api.Block{})
	}
}

// So it is wherever in the row the parity stands.
func TestParityAnywhereInTheRow(t *testing.T) {
	l := list(7)
	for at := range len(l) + 1 {
		row := slices.Insert(slices.Clone(l), at, wall.Fold(l))
		for n, b := range row {
			wantMissing(t, row, n, b)
		}
	}
}

// Delta is the parity with a new block in each old one's place.
func TestDeltaOfEachPlace(t *testing.T) {
	for _, l := range lists() {
		p := wall.Fold(l)
		for n, old := range l {
			for _, now := range edges() {
				other := instead(l, n, now)
				want(t, "Delta", wall.Delta(p, old, now), wall.Fold(other))
				want(t, "Delta back", wall.Delta(wall.Fold(other), now, old), p)
			}
		}
	}
}

// All blocks of a list made new, one behind the other.
func TestDeltaOneBehindTheOther(t *testing.T) {
	l, other := list(15), list(16)[:15]
	p := wall.Fold(l)
	for n := range l {
		p = wall.Delta(p, l[n], other[n])
	}
	want(t, "Delta", p, wall.Fold(other))
}

// orders calls with each order of a list.
func orders(l []api.Block, from int, with func([]api.Block)) {
	if from == len(l) {
		with(l)
	}
	for i := from; i < len(l); i++ {
		l[from], l[i] = l[i], l[from]
		orders(l, from+1, with)
		l[from], l[i] = l[i], l[from]
	}
}

func TestFoldInEachOrder(t *testing.T) {
	for many := range 7 {
		p := wall.Fold(list(many))
		orders(list(many), 0, func(l []api.Block) { want(t, "Fold", wall.Fold(l), p) })
	}
}

// Longer lists turned round, and begun at each place.
func TestFoldInOtherOrders(t *testing.T) {
	for _, l := range lists() {
		p, back := wall.Fold(l), slices.Clone(l)
		slices.Reverse(back)
		want(t, "Fold turned round", wall.Fold(back), p)
		for i := range l {
			want(t, "Fold begun elsewhere", wall.Fold(slices.Concat(l[i:], l[:i])), p)
		}
	}
}

// Lists in two pieces, and in single blocks.
func TestFoldInPieces(t *testing.T) {
	for _, l := range lists() {
		p, one := wall.Fold(l), api.Block{}
		for i := range len(l) + 1 {
			want(t, "Fold in pieces", wall.Xor(wall.Fold(l[:i]), wall.Fold(l[i:])), p)
		}
		for _, b := range l {
			one = wall.Xor(one, b)
		}
		want(t, "Fold in single blocks", one, p)
	}
}

// A block that is torn, and its parity torn at the same byte: the parity is
// that of the torn block.
func TestTornWithItsParity(t *testing.T) {
	l := list(5)
	for at, old := range l {
		now := some(900 + at)
		p, q := wall.Fold(l), wall.Delta(wall.Fold(l), old, now)
		for n := range api.Size + 1 {
			want(t, "Torn", wall.Torn(p, q, n), wall.Fold(instead(l, at, wall.Torn(old, now, n))))
		}
	}
}

// What is handed in stays as it is, the room behind its end too; no answer
// shares with it.
func TestArgumentsStay(t *testing.T) {
	room, kept := list(12), list(12)
	for end := range len(room) + 1 {
		b := wall.Fold(room[:end])
		b[0], b[63] = b[0]^1, b[63]^1
		for n := -1; n <= end; n++ {
			b, _ = wall.Missing(room[:end], n)
			b[0], b[63] = b[0]^1, b[63]^1
		}
	}
	if !slices.Equal(room, kept) {
		t.Error("the list that was handed in is another one")
	}
}

func TestBlocksStay(t *testing.T) {
	a, b, c := some(1), some(2), some(3)
	wall.Xor(a, b)
	wall.Delta(a, b, c)
	wall.Torn(a, b, 5)
	wall.Zero(c)
	want(t, "the first block", a, some(1))
	want(t, "the second block", b, some(2))
	want(t, "the third block", c, some(3))
}

// What a call answers hangs on what it was given alone.
func TestAnswersAgain(t *testing.T) {
	l := list(6)
	p := wall.Fold(l)
	m, _ := wall.Missing(l, 3)
	wall.Fold(list(5))
	wall.Missing(l, -1)
	wall.Missing(list(4), 2)
	wall.Torn(l[0], l[1], 7)
	wall.Delta(l[0], l[1], l[2])
	wall.Zero(l[0])
	want(t, "Fold again", wall.Fold(l), p)
	wantMissing(t, l, 3, m)
	want(t, "Fold of none", wall.Fold(nil), api.Block{})
}
