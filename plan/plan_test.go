package plan_test

import (
	"math"
	"slices"
	"testing"

	"ashlar/api"
	"ashlar/plan"
)

// The document's numbers, written out, so that a limit that is asked wrongly is told.
const (
	minData = 2
	maxData = 15
)

// stripe answers what a text says of the data blocks: w written, k known, b both, . neither.
func stripe(signs string) (written, known []bool) {
	for _, c := range signs {
		written = append(written, c == 'w' || c == 'b')
		known = append(known, c == 'k' || c == 'b')
	}
	return written, known
}

// signs is a stripe as a text.
func signs(written, known []bool) string {
	s := ""
	for i := range written {
		n := 0
		if written[i] {
			n++
		}
		if known[i] {
			n += 2
		}
		s += ".wkb"[n : n+1]
	}
	return s
}

// flags are so many that all say the same.
func flags(n int, is bool) []bool { return slices.Repeat([]bool{is}, n) }

// but are flags, one of which says the other thing.
func but(n, at int, is bool) []bool {
	l := flags(n, is)
	l[at] = !is
	return l
}

// mask answers the flags of a number's lowest bits.
func mask(n, bits int) []bool {
	var l []bool
	for i := range n {
		l = append(l, bits>>i&1 == 1)
	}
	return l
}

// dice answers numbers from 0 to below a bound, the same ones for the same seed.
func dice(seed int) func(bound int) int {
	n := uint32(seed)*2654435761 + 12345
	return func(bound int) int {
		n = n*1664525 + 1013904223
		return int(n>>8) % bound
	}
}

// ask is what Of is asked.
type ask struct {
	written, known []bool
	parity         bool
	lost           int
}

// of answers what is asked of a stripe that a text tells.
func of(text string, parity bool, lost int) ask {
	written, known := stripe(text)
	return ask{written, known, parity, lost}
}

// each calls with each mix of written and known of so many data blocks, at least one
// written, the parity known and not, and each one lost, the parity too, and none.
func each(n int, with func(a ask)) {
	for written := 1; written < 1<<n; written++ {
		for known := range 1 << n {
			eachLost(mask(n, written), mask(n, known), with)
		}
	}
}

// eachLost calls with the parity known and not, and each one lost, the parity too, and none.
func eachLost(written, known []bool, with func(a ask)) {
	for lost := -1; lost <= len(written); lost++ {
		with(ask{written, known, false, lost})
		with(ask{written, known, true, lost})
	}
}

// some calls with mixes of many data blocks, with few of them written or known, and with
// many, and with all of small stripes.
func some(with func(a ask)) {
	for n := minData; n <= 5; n++ {
		each(n, with)
	}
	for n := 6; n <= maxData; n++ {
		roll := dice(n)
		for i := range 300 {
			written, known := flags(n, false), flags(n, false)
			for j := range n {
				written[j], known[j] = roll(6) <= i%6, roll(4) < i/6%4
			}
			written[roll(n)] = true
			eachLost(written, known, with)
		}
	}
}

// needs tells whether a way needs what a block was, that of the parity told as n.
func (a ask) needs(way, block int) bool {
	parity := block == len(a.written)
	switch way {
	case api.WayRest:
		return !parity && !a.written[block]
	case api.WayDelta:
		return parity || a.written[block]
	}
	return false
}

// isKnown tells whether it is known what a block is, that of the parity told as n.
func (a ask) isKnown(block int) bool {
	if block == len(a.known) {
		return a.parity
	}
	return a.known[block]
}

// reads is what a way reads: what it needs and is not known.
func (a ask) reads(way int) []int {
	var l []int
	for block := 0; block <= len(a.written); block++ {
		if a.needs(way, block) && !a.isKnown(block) {
			l = append(l, block)
		}
	}
	return l
}

// plan is what Of must answer, as the document's words say it.
func (a ask) plan() api.Plan {
	if a.lost == len(a.written) {
		return api.Plan{Way: api.WayNone}
	}
	if !slices.Contains(a.written, false) {
		return api.Plan{Way: api.WayFull}
	}
	rest := api.Plan{Way: api.WayRest, Reads: a.reads(api.WayRest)}
	delta := api.Plan{Way: api.WayDelta, Reads: a.reads(api.WayDelta)}
	if slices.Contains(rest.Reads, a.lost) {
		return delta
	}
	if slices.Contains(delta.Reads, a.lost) || len(rest.Reads) <= len(delta.Reads) {
		return rest
	}
	return delta
}

func wantPlan(t *testing.T, a ask, way uint8, reads ...int) {
	t.Helper()
	p, e := plan.Of(a.written, a.known, a.parity, a.lost)
	if p.Way != way || !slices.Equal(p.Reads, reads) || e != api.OK {
		t.Errorf("Of(%s, %v, %d) = %d %v, %v; want %d %v", signs(a.written, a.known), a.parity, a.lost, p.Way, p.Reads, e, way, reads)
	}
}

// wantWords holds the plan against the document's words.
func wantWords(t *testing.T, a ask) {
	t.Helper()
	p := a.plan()
	wantPlan(t, a, p.Way, p.Reads...)
}

func wantNoPlan(t *testing.T, written, known []bool, parity bool, lost int) {
	t.Helper()
	p, e := plan.Of(written, known, parity, lost)
	if p.Way != 0 || len(p.Reads) != 0 || e != api.ErrArg {
		t.Errorf("Of(%v, %v, %v, %d) = %v, %v; want zero, %v", written, known, parity, lost, p, e, api.ErrArg)
	}
}

func TestExamples(t *testing.T) {
	wantPlan(t, of("w..", false, -1), api.WayRest, 1, 2)
	wantPlan(t, of("w...", false, -1), api.WayDelta, 0, 4)
	wantPlan(t, of("w...", false, 1), api.WayDelta, 0, 4)
	wantPlan(t, of("w...", false, 0), api.WayRest, 1, 2, 3)
	wantPlan(t, of("ww", false, -1), api.WayFull)
	wantPlan(t, of("w.", false, 2), api.WayNone)
	written, known := stripe("..")
	wantNoPlan(t, written, known, false, -1)
}

// P16.1 (Of): from here on.

// Each number of data blocks, and one less and one more, with none known and with all.
func TestOfEachNumber(t *testing.T) {
	if api.MinMembers-1 != minData || api.MaxMembers-1 != maxData {
		t.Fatalf("%d to %d members; want one more than %d to %d", api.MinMembers, api.MaxMembers, minData, maxData)
	}
	for n := range 70 {
		for _, is := range []bool{false, true} {
			for _, lost := range []int{-1, 0, n} {
				for _, written := range [][]bool{flags(n, true), slices.Concat([]bool{true}, flags(max(n-1, 0), false))[:n]} {
					if n < minData || n > maxData {
						wantNoPlan(t, written, flags(n, is), is, lost)
						continue
					}
					wantWords(t, ask{written, flags(n, is), is, lost})
				}
			}
		}
	}
	for _, n := range []int{255, 256, 256 + 2, 65536 + 3} {
		wantNoPlan(t, flags(n, true), flags(n, true), true, -1)
	}
}

// No data block, of lists that are nil and of lists without elements.
func TestOfNone(t *testing.T) {
	for _, none := range [][]bool{nil, {}, flags(5, true)[:0]} {
		for _, lost := range []int{-2, -1, 0, 1} {
			wantNoPlan(t, none, none, true, lost)
			wantNoPlan(t, none, nil, false, lost)
			wantNoPlan(t, none, flags(2, true), false, lost)
			wantNoPlan(t, flags(2, true), none, false, lost)
		}
	}
}

// Lists of each two lengths: they are as long as each other, or there is no plan.
func TestOfUnlikeLengths(t *testing.T) {
	for n := range maxData + 3 {
		for m := range maxData + 3 {
			if n == m {
				continue
			}
			for _, lost := range []int{-1, 0, n, m} {
				wantNoPlan(t, flags(n, true), flags(m, true), true, lost)
				wantNoPlan(t, flags(n, true), flags(m, false), false, lost)
			}
		}
	}
}

// None is written, whatever is known or lost, also if the parity is lost.
func TestOfNoneWritten(t *testing.T) {
	for n := minData; n <= maxData; n++ {
		for _, known := range [][]bool{flags(n, false), flags(n, true), but(n, 0, false), but(n, n-1, true)} {
			eachLost(flags(n, false), known, func(a ask) { wantNoPlan(t, a.written, a.known, a.parity, a.lost) })
		}
	}
}

// One is written, or all but one, wherever it stands; all are.
func TestOfOneWrittenAndAllButOne(t *testing.T) {
	for n := minData; n <= maxData; n++ {
		for at := range n {
			for _, is := range []bool{false, true} {
				for _, written := range [][]bool{but(n, at, is), flags(n, true)} {
					for _, known := range [][]bool{flags(n, false), flags(n, true), but(n, at, false), but(n, at, true)} {
						eachLost(written, known, func(a ask) { wantWords(t, a) })
					}
				}
			}
		}
	}
}

// Each number of written ones, of which nothing is known: which way reads less is told
// by their number alone.
func TestOfEachNumberOfWritten(t *testing.T) {
	for n := minData; n <= maxData; n++ {
		for many := 1; many < n; many++ {
			front := slices.Concat(flags(many, true), flags(n-many, false))
			for turn := range n {
				written := slices.Concat(front[turn:], front[:turn])
				for _, parity := range []bool{false, true} {
					p, e := plan.Of(written, flags(n, false), parity, -1)
					way, reads := uint8(api.WayDelta), many
					if !parity {
						reads++
					}
					if n-many <= reads {
						way, reads = api.WayRest, n-many
					}
					if p.Way != way || len(p.Reads) != reads || e != api.OK {
						t.Errorf("Of(%v, none, %v, -1) = %v, %v; want the way %d, which reads %d", written, parity, p, e, way, reads)
					}
				}
			}
		}
	}
}

// Which ones may be lost, and which may not.
func TestOfEachLost(t *testing.T) {
	for n := minData; n <= maxData; n++ {
		for _, lost := range []int{
			-2, -3, -n, -n - 1, -255, -256, -257, -65536, -65537, -1 << 32, -1<<32 - 1, -1<<32 + 1, math.MinInt32,
			math.MinInt, math.MinInt + 1, math.MinInt + n, n + 1, n + 2, 2 * n, 16 + n, 255, 256, 256 + n, 65535, 65536, 1<<32 - 1, 1 << 32,
			1<<32 + n, math.MaxInt32, math.MaxInt - 1, math.MaxInt,
		} {
			for _, is := range []bool{false, true} {
				wantNoPlan(t, flags(n, true), flags(n, is), is, lost)
				wantNoPlan(t, but(n, 0, false), flags(n, is), is, lost)
				wantNoPlan(t, but(n, n-1, true), flags(n, is), is, lost)
			}
		}
		for _, lost := range []int{-1, 0, 1, n - 1, n} {
			wantWords(t, ask{flags(n, true), flags(n, false), false, lost})
			wantWords(t, ask{but(n, 0, false), flags(n, false), false, lost})
			wantWords(t, ask{but(n, n-1, true), flags(n, false), true, lost})
		}
	}
}

// The parity is lost: none is made, also if all are written, or all is known.
func TestOfParityLost(t *testing.T) {
	for _, text := range []string{"w.", ".w", "ww", "bb", "wk", "w..", "www", "bbb", "bkk", "wwwwwwwwwwwwwww", "w..............", "bkkkkkkkkkkkkkk"} {
		wantPlan(t, of(text, false, len(text)), api.WayNone)
		wantPlan(t, of(text, true, len(text)), api.WayNone)
	}
}

// All are written: nothing is read, whatever is known, whichever data block is lost.
func TestOfAllWritten(t *testing.T) {
	for _, text := range []string{"ww", "wb", "bb", "www", "bwb", "wwwwwwwwwwwwwww", "bbbbbbbbbbbbbbb", "wwwwwwwwwwwwwwb"} {
		for lost := -1; lost < len(text); lost++ {
			wantPlan(t, of(text, false, lost), api.WayFull)
			wantPlan(t, of(text, true, lost), api.WayFull)
		}
	}
}

// Both ways read as many: it is WayRest.
func TestOfAsMany(t *testing.T) {
	wantPlan(t, of("w..", false, -1), api.WayRest, 1, 2)
	wantPlan(t, of("..w", false, -1), api.WayRest, 0, 1)
	wantPlan(t, of("w.", true, -1), api.WayRest, 1)
	wantPlan(t, of("w.w.", true, -1), api.WayRest, 1, 3)
	wantPlan(t, of("b.", false, -1), api.WayRest, 1)
	wantPlan(t, of("bk", true, -1), api.WayRest)
	wantPlan(t, of("bkkk", true, -1), api.WayRest)
	wantPlan(t, of("b..k", false, -1), api.WayDelta, 4)
	wantPlan(t, of("b.kk", false, -1), api.WayRest, 1)
	wantPlan(t, of("wwwwwww........", false, -1), api.WayRest, 7, 8, 9, 10, 11, 12, 13, 14)
}

// One way reads one less than the other.
func TestOfOneLess(t *testing.T) {
	wantPlan(t, of("w.", false, -1), api.WayRest, 1)
	wantPlan(t, of("w..", true, -1), api.WayDelta, 0)
	wantPlan(t, of("w.k", false, -1), api.WayRest, 1)
	wantPlan(t, of("w...", false, -1), api.WayDelta, 0, 4)
	wantPlan(t, of("b..", false, -1), api.WayDelta, 3)
	wantPlan(t, of(".b", true, -1), api.WayDelta)
	wantPlan(t, of("wk", true, -1), api.WayRest)
	wantPlan(t, of("ww.......wwww..", true, -1), api.WayDelta, 0, 1, 9, 10, 11, 12)
	wantPlan(t, of("wwwwwww........", true, -1), api.WayDelta, 0, 1, 2, 3, 4, 5, 6)
	wantPlan(t, of("wwwwwwww.......", true, -1), api.WayRest, 8, 9, 10, 11, 12, 13, 14)
	wantPlan(t, of("wwwwww.........", false, -1), api.WayDelta, 0, 1, 2, 3, 4, 5, 15)
}

// A way that reads less does not count, if it reads what is lost.
func TestOfLessButLost(t *testing.T) {
	wantPlan(t, of("w.", false, 1), api.WayDelta, 0, 2)
	wantPlan(t, of("w.w", false, 1), api.WayDelta, 0, 2, 3)
	wantPlan(t, of("ww.", false, 2), api.WayDelta, 0, 1, 3)
	wantPlan(t, of(".wwwwwwwwwwwwww", false, 0), api.WayDelta, 1, 2, 3, 4, 5, 6, 7, 8, 9, 10, 11, 12, 13, 14, 15)
	wantPlan(t, of("w..", false, 2), api.WayDelta, 0, 3)
	wantPlan(t, of("w.k", true, 1), api.WayDelta, 0)
	wantPlan(t, of("w...", false, 0), api.WayRest, 1, 2, 3)
	wantPlan(t, of("w...", true, 0), api.WayRest, 1, 2, 3)
	wantPlan(t, of("..............w", true, 14), api.WayRest, 0, 1, 2, 3, 4, 5, 6, 7, 8, 9, 10, 11, 12, 13)
}

// What is lost and known is not read: each way counts.
func TestOfLostButKnown(t *testing.T) {
	wantPlan(t, of("b...", false, 0), api.WayDelta, 4)
	wantPlan(t, of("b...", true, 0), api.WayDelta)
	wantPlan(t, of("wk", false, 1), api.WayRest)
	wantPlan(t, of("wk.", false, 1), api.WayRest, 2)
	wantPlan(t, of("wwk", false, 2), api.WayRest)
	wantPlan(t, of("wk..", true, 1), api.WayDelta, 0)
	wantPlan(t, of("kkkkkkkkkkkkkkw", true, 0), api.WayRest)
	wantPlan(t, of("b..............", false, 0), api.WayDelta, 15)
}

// The written one is lost, and the only one: WayDelta can't be, unless it is known.
func TestOfWrittenLost(t *testing.T) {
	for n := minData; n <= maxData; n++ {
		for at := range n {
			var others []int
			for i := range n {
				if i != at {
					others = append(others, i)
				}
			}
			wantPlan(t, ask{but(n, at, false), flags(n, false), false, at}, api.WayRest, others...)
			wantPlan(t, ask{but(n, at, false), flags(n, false), true, at}, api.WayRest, others...)
			wantPlan(t, ask{but(n, at, false), but(n, at, false), true, at}, api.WayDelta)
		}
	}
}

// All the others are known: nothing is read, whatever is lost, also if they are but one.
func TestOfAllOthersKnown(t *testing.T) {
	for n := minData; n <= maxData; n++ {
		for at := range n {
			for lost := -1; lost < n; lost++ {
				for _, parity := range []bool{false, true} {
					wantPlan(t, ask{but(n, at, false), but(n, at, true), parity, lost}, api.WayRest)
					wantPlan(t, ask{but(n, at, false), flags(n, true), parity, lost}, api.WayRest)
					wantPlan(t, ask{but(n, at, true), but(n, at, false), parity, lost}, api.WayRest)
				}
			}
		}
	}
}

// All the others but one are known, and this one is lost: WayDelta reads what was there.
func TestOfOthersButOneKnown(t *testing.T) {
	wantPlan(t, of("w.kk", false, 1), api.WayDelta, 0, 4)
	wantPlan(t, of("w.kk", true, 1), api.WayDelta, 0)
	wantPlan(t, of("b.kk", false, 1), api.WayDelta, 4)
	wantPlan(t, of("w.kk", false, 0), api.WayRest, 1)
	wantPlan(t, of("wkkkkkkkkkkkkk.", false, 14), api.WayDelta, 0, 15)
	wantPlan(t, of("wkkkkkkkkkkkkk.", true, 0), api.WayRest, 14)
	wantPlan(t, of("wkkkkkkkkkkkkk.", true, -1), api.WayRest, 14)
}

// Each mix of small numbers of data blocks.
func TestOfEachMix(t *testing.T) {
	for n := minData; n <= 6; n++ {
		each(n, func(a ask) { wantWords(t, a) })
	}
}

// Mixes of each greater number.
func TestOfMixes(t *testing.T) {
	some(func(a ask) { wantWords(t, a) })
}

// What is read rises, is told once, and is a data block, or, of WayDelta alone, the
// parity as n.
func TestReadsRise(t *testing.T) {
	some(func(a ask) {
		p, e := plan.Of(a.written, a.known, a.parity, a.lost)
		n := len(a.written)
		for i, block := range p.Reads {
			if e != api.OK || block < 0 || block > n || i > 0 && block <= p.Reads[i-1] || block == n && p.Way != api.WayDelta {
				t.Errorf("Of(%s, %v, %d) = %v, %v", signs(a.written, a.known), a.parity, a.lost, p, e)
			}
		}
		if told := slices.Contains(p.Reads, n); p.Way == api.WayDelta && told == a.parity {
			t.Errorf("Of(%s, %v, %d) = %v: the parity", signs(a.written, a.known), a.parity, a.lost, p)
		}
	})
}

// P16.2 (Parity): from here on.

// block answers a block of all kinds of bytes, another one for each seed.
func block(seed int) api.Block {
	var b api.Block
	roll := dice(seed)
	for i := range b {
		b[i] = byte(roll(256))
	}
	return b
}

// blocks answers so many of all kinds.
func blocks(n, seed int) []api.Block {
	var l []api.Block
	for i := range n {
		l = append(l, block(1000*seed+i))
	}
	return l
}

// all answers a block of one byte, again and again.
func all(c byte) api.Block {
	var b api.Block
	for i := range b {
		b[i] = c
	}
	return b
}

// laid answers blocks laid against each other: of each bit, whether an odd number has it.
func laid(l ...api.Block) api.Block {
	var out api.Block
	for i := range out {
		for bit := range 8 {
			odd := 0
			for _, b := range l {
				odd += int(b[i] >> bit & 1)
			}
			out[i] |= byte(odd % 2 << bit)
		}
	}
	return out
}

// behind answers the blocks of a stripe when those that are written are the new ones.
func behind(written []bool, old, now []api.Block) []api.Block {
	l := slices.Clone(old)
	for i := range l {
		if written[i] {
			l[i] = now[i]
		}
	}
	return l
}

// made is the parity of a way, as the document's words say it.
func made(way uint8, written []bool, old, now []api.Block, parity api.Block) api.Block {
	switch way {
	case api.WayFull:
		return laid(now...)
	case api.WayRest:
		return laid(behind(written, old, now)...)
	}
	l := []api.Block{parity}
	for i := range written {
		if written[i] {
			l = append(l, old[i], now[i])
		}
	}
	return laid(l...)
}

// ways are all by which a parity is made.
func ways() []uint8 { return []uint8{api.WayFull, api.WayRest, api.WayDelta} }

// mixes are flags of which none, one, some, all but one and all say yes.
func mixes(n int) [][]bool {
	l := [][]bool{flags(n, false), flags(n, true)}
	for at := range n {
		l = append(l, but(n, at, false), but(n, at, true))
	}
	roll := dice(n)
	for range 8 {
		l = append(l, mask(n, roll(1<<n)))
	}
	return l
}

func wantParity(t *testing.T, way uint8, written []bool, old, now []api.Block, parity, want api.Block) {
	t.Helper()
	if b, e := plan.Parity(way, written, old, now, parity); b != want || e != api.OK {
		t.Errorf("Parity(%d, %v, ..) = %x, %v; want %x", way, written, b, e, want)
	}
}

func wantNoParity(t *testing.T, way uint8, written []bool, old, now []api.Block, parity api.Block) {
	t.Helper()
	if b, e := plan.Parity(way, written, old, now, parity); b != (api.Block{}) || e != api.ErrArg {
		t.Errorf("Parity(%d, of %d, %d, %d, ..) = %x, %v; want 0, %v", way, len(written), len(old), len(now), b, e, api.ErrArg)
	}
}

// By hand: bytes that are each a bit of its own.
func TestParityByHand(t *testing.T) {
	written, _ := stripe("w.w")
	old, now := []api.Block{all(1), all(2), all(4)}, []api.Block{all(8), all(16), all(32)}
	wantParity(t, api.WayFull, written, old, now, all(64), all(8+16+32))
	wantParity(t, api.WayRest, written, old, now, all(64), all(8+2+32))
	wantParity(t, api.WayDelta, written, old, now, all(64), all(64+1+8+4+32))
	wantParity(t, api.WayDelta, written, old, now, all(1+2+4), all(8+2+32))
	two, _ := stripe("ww")
	wantParity(t, api.WayFull, two, old[:2], now[:2], all(64), all(8+16))
	wantParity(t, api.WayRest, two, old[:2], now[:2], all(64), all(8+16))
	wantParity(t, api.WayDelta, two, old[:2], now[:2], all(64), all(64+1+8+2+16))
}

// Each way, of each number of data blocks, of which none, one, some, or all are written.
func TestParityOfEachNumber(t *testing.T) {
	for n := minData; n <= maxData; n++ {
		old, now, parity := blocks(n, 1), blocks(n, 2), block(3)
		for _, written := range mixes(n) {
			for _, way := range ways() {
				wantParity(t, way, written, old, now, parity, made(way, written, old, now, parity))
			}
		}
	}
}

// Each mix of small numbers of data blocks, and the bytes at the ends.
func TestParityOfEachMix(t *testing.T) {
	for n := minData; n <= 6; n++ {
		for bits := range 1 << n {
			old, now, parity := blocks(n, bits), blocks(n, bits+100), block(bits)
			old[0][0], old[n-1][63], now[0][63], now[n-1][0] = 0x80, 1, 0xff, 0
			for _, way := range ways() {
				wantParity(t, way, mask(n, bits), old, now, parity, made(way, mask(n, bits), old, now, parity))
			}
		}
	}
}

// None is written: WayRest makes the parity of what is there, WayDelta leaves it.
func TestParityOfNoneWritten(t *testing.T) {
	for n := minData; n <= maxData; n++ {
		old, now, parity := blocks(n, 4), blocks(n, 5), block(6)
		wantParity(t, api.WayFull, flags(n, false), old, now, parity, laid(now...))
		wantParity(t, api.WayRest, flags(n, false), old, now, parity, laid(old...))
		wantParity(t, api.WayDelta, flags(n, false), old, now, parity, parity)
	}
}

// All are written: WayRest makes the parity of all that is new, as WayFull does.
func TestParityOfAllWritten(t *testing.T) {
	for n := minData; n <= maxData; n++ {
		old, now, parity := blocks(n, 7), blocks(n, 8), block(9)
		wantParity(t, api.WayFull, flags(n, true), old, now, parity, laid(now...))
		wantParity(t, api.WayRest, flags(n, true), old, now, parity, laid(now...))
		wantParity(t, api.WayDelta, flags(n, true), old, now, parity, laid(parity, laid(old...), laid(now...)))
	}
}

// What is no way: WayNone, and all other numbers.
func TestParityOfNoWay(t *testing.T) {
	for way := range 256 {
		if slices.Contains(ways(), uint8(way)) {
			continue
		}
		for n := minData; n <= maxData; n++ {
			wantNoParity(t, uint8(way), flags(n, true), blocks(n, 1), blocks(n, 2), block(3))
			wantNoParity(t, uint8(way), flags(n, false), blocks(n, 1), blocks(n, 2), block(3))
		}
		wantNoParity(t, uint8(way), nil, nil, nil, block(3))
	}
}

// Numbers of data blocks that may not be.
func TestParityOfNoNumber(t *testing.T) {
	for _, n := range []int{0, minData - 1, maxData + 1, maxData + 2, 255, 256, 256 + 2, 65536 + 3} {
		old, now := make([]api.Block, n), make([]api.Block, n)
		for _, way := range ways() {
			wantNoParity(t, way, flags(n, true), old, now, block(3))
			wantNoParity(t, way, flags(n, false), old, now, block(3))
		}
	}
	for _, way := range ways() {
		wantNoParity(t, way, nil, nil, nil, api.Block{})
		wantNoParity(t, way, []bool{}, []api.Block{}, nil, block(3))
		wantNoParity(t, way, flags(2, true)[:0], blocks(2, 1)[:0], blocks(2, 2)[:0], block(3))
	}
}

// Lists of each three lengths: they are as long as each other, or there is no parity, also
// where a way does not need the one that is another length.
func TestParityOfUnlikeLengths(t *testing.T) {
	old, now := blocks(maxData+2, 1), blocks(maxData+2, 2)
	for i := range maxData + 3 {
		for j := range maxData + 3 {
			for k := range maxData + 3 {
				if i == j && j == k {
					continue
				}
				for _, way := range ways() {
					wantNoParity(t, way, flags(i, true), old[:j], now[:k], block(3))
					wantNoParity(t, way, flags(i, false), old[:j], now[:k], block(3))
				}
			}
		}
	}
}

// asks tells whether a way needs what a data block was, what it will be, and the parity.
func asks(way uint8, written bool) (old, now, parity bool) {
	switch way {
	case api.WayFull:
		return false, true, false
	case api.WayRest:
		return !written, written, false
	}
	return written, written, true
}

// spoilt answers blocks in which each that a way does not need is another one.
func spoilt(way uint8, written []bool, old, now []api.Block, by api.Block) (was, is []api.Block) {
	was, is = slices.Clone(old), slices.Clone(now)
	for i := range written {
		needsOld, needsNow, _ := asks(way, written[i])
		if !needsOld {
			was[i] = by
		}
		if !needsNow {
			is[i] = by
		}
	}
	return was, is
}

// What a way does not need is not asked: any blocks there change nothing.
func TestParityDoesNotAsk(t *testing.T) {
	for n := minData; n <= maxData; n++ {
		old, now, parity := blocks(n, 1), blocks(n, 2), block(3)
		for _, written := range mixes(n) {
			for _, way := range ways() {
				want := made(way, written, old, now, parity)
				for _, by := range []api.Block{{}, all(0xff), all(1), block(4)} {
					was, is := spoilt(way, written, old, now, by)
					p := parity
					if _, _, needed := asks(way, false); !needed {
						p = by
					}
					wantParity(t, way, written, was, is, p, want)
				}
			}
		}
	}
}

// What a way needs is asked: each bit of it is one of the parity's.
func TestParityAsks(t *testing.T) {
	for n := minData; n <= maxData; n++ {
		for _, written := range mixes(n) {
			for _, way := range ways() {
				for i := range written {
					needsOld, needsNow, needsParity := asks(way, written[i])
					wantAsked(t, way, written, i, 0, needsOld)
					wantAsked(t, way, written, i, 1, needsNow)
					wantAsked(t, way, written, 0, 2, needsParity)
				}
			}
		}
	}
}

// wantAsked holds a way to ask for one block: of the old ones, of the new ones, or for the
// parity.
func wantAsked(t *testing.T, way uint8, written []bool, at, which int, asked bool) {
	t.Helper()
	n := len(written)
	l := [3][]api.Block{make([]api.Block, n), make([]api.Block, n), make([]api.Block, 1)}
	l[which][at] = block(at + 10*which)
	want := api.Block{}
	if asked {
		want = l[which][at]
	}
	wantParity(t, way, written, l[0], l[1], l[2][0], want)
}

// P16.3 (what follows): from here on.

// One of WayRest and WayDelta always counts: where the parity is not lost, and not all are
// written, it is one of them, and it can be done.
func TestOneAlwaysCounts(t *testing.T) {
	some(func(a ask) {
		p, e := plan.Of(a.written, a.known, a.parity, a.lost)
		full := !slices.Contains(a.written, false)
		if a.lost == len(a.written) || full {
			return
		}
		if e != api.OK || p.Way != api.WayRest && p.Way != api.WayDelta || slices.Contains(p.Reads, a.lost) {
			t.Errorf("Of(%s, %v, %d) = %v, %v", signs(a.written, a.known), a.parity, a.lost, p, e)
		}
		rest, delta := a.reads(api.WayRest), a.reads(api.WayDelta)
		if slices.Contains(rest, a.lost) && slices.Contains(delta, a.lost) {
			t.Errorf("%s, %v, %d: none counts", signs(a.written, a.known), a.parity, a.lost)
		}
	})
}

// A plan never reads what is lost, or known.
func TestReadsNoLostOrKnown(t *testing.T) {
	some(func(a ask) {
		p, e := plan.Of(a.written, a.known, a.parity, a.lost)
		for _, block := range p.Reads {
			if e != api.OK || block == a.lost || a.isKnown(block) {
				t.Errorf("Of(%s, %v, %d) = %v, %v", signs(a.written, a.known), a.parity, a.lost, p, e)
			}
		}
	})
}

// Whichever way that may be, the parity is that of the new blocks, if it was that of the
// old ones.
func TestEachWayMakesTheSame(t *testing.T) {
	for n := minData; n <= maxData; n++ {
		for _, written := range mixes(n) {
			old, now := blocks(n, n), blocks(n, n+100)
			parity, want := laid(old...), laid(behind(written, old, now)...)
			wantParity(t, api.WayRest, written, old, now, parity, want)
			wantParity(t, api.WayDelta, written, old, now, parity, want)
			if !slices.Contains(written, false) {
				wantParity(t, api.WayFull, written, old, now, parity, want)
			}
		}
	}
}

// Writes one behind the other, by any ways: the parity stays that of the blocks.
func TestOneBehindTheOther(t *testing.T) {
	for n := minData; n <= maxData; n++ {
		roll := dice(n)
		row := blocks(n, 50)
		parity := laid(row...)
		for step := range 60 {
			written := mask(n, 1+roll(1<<n-1))
			way := []uint8{api.WayRest, api.WayDelta}[roll(2)]
			if !slices.Contains(written, false) {
				way = api.WayFull
			}
			now := blocks(n, 100+step)
			next := behind(written, row, now)
			wantParity(t, way, written, row, now, parity, laid(next...))
			row, parity = next, laid(next...)
		}
	}
}

// What a plan reads, and what is known, is enough: all else may be any bytes, and the
// parity is that of the new blocks.
func TestPlanIsEnough(t *testing.T) {
	some(func(a ask) {
		p, e := plan.Of(a.written, a.known, a.parity, a.lost)
		if e != api.OK || p.Way == api.WayNone {
			return
		}
		n := len(a.written)
		old, now := blocks(n, n), blocks(n, n+100)
		parity, want := laid(old...), laid(behind(a.written, old, now)...)
		for i := range n {
			if !a.written[i] {
				now[i] = block(i + 7)
			}
			if !a.known[i] && !slices.Contains(p.Reads, i) {
				old[i] = block(i + 8)
			}
		}
		if !a.parity && !slices.Contains(p.Reads, n) {
			parity = block(9)
		}
		wantParity(t, p.Way, a.written, old, now, parity, want)
	})
}

// Where none is lost, no way that counts reads less than the plan's.
func TestNoWayReadsLess(t *testing.T) {
	some(func(a ask) {
		p, e := plan.Of(a.written, a.known, a.parity, a.lost)
		for _, way := range []int{api.WayRest, api.WayDelta} {
			if other := a.reads(way); e != api.OK || len(other) < len(p.Reads) && !slices.Contains(other, a.lost) {
				t.Errorf("Of(%s, %v, %d) = %v, %v; the way %d reads %v", signs(a.written, a.known), a.parity, a.lost, p, e, way, other)
			}
		}
	})
}

// The rules that hold everywhere: from here on.

// What stands in the room behind the ends is none of the stripe's.
func TestReadsNoRoomBehindTheEnd(t *testing.T) {
	room := maxData + 3
	old, now, parity := blocks(room, 1), blocks(room, 2), block(3)
	for _, is := range []bool{false, true} {
		written, known := flags(room, is), flags(room, is)
		for n := minData; n <= maxData; n++ {
			copy(written, but(n, 0, false))
			copy(known, but(n, 1, false))
			wantWords(t, ask{written[:n], known[:n], false, -1})
			wantWords(t, ask{written[:n], known[:n], is, n - 1})
			for _, way := range ways() {
				wantParity(t, way, written[:n], old[:n], now[:n], parity, made(way, written[:n], old[:n], now[:n], parity))
			}
			copy(written, flags(n, false))
			wantNoPlan(t, written[:n], known[:n], is, -1)
			copy(written, flags(n, true))
			wantPlan(t, ask{written[:n], known[:n], is, -1}, api.WayFull)
		}
	}
}

// What is handed in stays as it is, the room behind its end too.
func TestArgumentsStay(t *testing.T) {
	room := maxData + 3
	for _, is := range []bool{false, true} {
		for n := range maxData + 2 {
			for bits := range 1 << min(n, 5) {
				written := slices.Concat(mask(n, bits), flags(room-n, is))
				known := slices.Concat(mask(n, bits*7), flags(room-n, !is))
				old, now, parity := blocks(room, 1), blocks(room, 2), block(3)
				keptWritten, keptKnown := slices.Clone(written), slices.Clone(known)
				for lost := -2; lost <= n+1; lost++ {
					plan.Of(written[:n], known[:n], is, lost)
				}
				for way := range uint8(6) {
					plan.Parity(way, written[:n], old[:n], now[:n], parity)
				}
				if !slices.Equal(written, keptWritten) || !slices.Equal(known, keptKnown) {
					t.Fatalf("%d of %d: the flags that were handed in are others", n, bits)
				}
				if !slices.Equal(old, blocks(room, 1)) || !slices.Equal(now, blocks(room, 2)) || parity != block(3) {
					t.Fatalf("%d of %d: the blocks that were handed in are others", n, bits)
				}
			}
		}
	}
}

// Two plans share nothing with each other, the room behind their ends too, nor with what
// was handed in.
func TestPlansShareNone(t *testing.T) {
	some(func(a ask) {
		p, _ := plan.Of(a.written, a.known, a.parity, a.lost)
		q, _ := plan.Of(a.written, a.known, a.parity, a.lost)
		want := a.plan()
		reads := p.Reads[:cap(p.Reads)]
		for i := range reads {
			reads[i] = -7
		}
		if !slices.Equal(q.Reads, want.Reads) {
			t.Errorf("Of(%s, %v, %d) is another one, since another plan was changed: %v", signs(a.written, a.known), a.parity, a.lost, q)
		}
		wantWords(t, a)
	})
}

// A plan stays as it is when what was handed in is changed.
func TestPlansKeepNone(t *testing.T) {
	for _, text := range []string{"w..", "w...", "wb.k", ".b.w.", "w..............", "ww", ".............w."} {
		a := of(text, false, -1)
		p, _ := plan.Of(a.written, a.known, a.parity, a.lost)
		want := a.plan()
		for i := range a.written {
			a.written[i], a.known[i] = !a.written[i], !a.known[i]
		}
		if p.Way != want.Way || !slices.Equal(p.Reads, want.Reads) {
			t.Errorf("Of(%s, ..) is another one, since its flags were changed: %v", text, p)
		}
	}
}

// What a call answers hangs on what it was given alone.
func TestAnswersAgain(t *testing.T) {
	written, _ := stripe("w.w")
	old, now, parity := blocks(3, 1), blocks(3, 2), block(3)
	for range 3 {
		wantPlan(t, of("w...", false, -1), api.WayDelta, 0, 4)
		wantPlan(t, of("w..", false, -1), api.WayRest, 1, 2)
		for _, way := range ways() {
			wantParity(t, way, written, old, now, parity, made(way, written, old, now, parity))
		}
		plan.Of(flags(15, true), flags(15, true), true, 15)
		plan.Of(flags(15, true), nil, true, math.MinInt)
		plan.Parity(api.WayNone, written, old, now, parity)
		plan.Parity(api.WayFull, flags(15, true), blocks(15, 4), blocks(15, 5), block(6))
		plan.Parity(api.WayDelta, written, old, now[:2], parity)
	}
}
