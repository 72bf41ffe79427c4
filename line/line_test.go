package line_test

import (
	"math"
	"slices"
	"strconv"
	"testing"

	"ashlar/api"
	"ashlar/line"
)

// The document's numbers, written out, so that a limit that is asked wrongly is told.
const (
	maxMembers = 16
	size       = 64
)

// sizes are all that may be.
func sizes() []int {
	var l []int
	for n := 1; n <= maxMembers; n++ {
		l = append(l, n)
	}
	return l
}

// noSizes are some that may not be, some of which would be in fewer bytes.
func noSizes() []int {
	return []int{
		math.MinInt, math.MinInt + 1, math.MinInt + 3, math.MinInt32, -1<<32 + 3, -65536 + 3, -256, -255, -253, -240, -16, -15, -3, -2, -1, 0,
		maxMembers + 1, maxMembers + 2, 2 * maxMembers, 255, 256, 257, 259, 272, 65536 + 3, 1 << 31, 1 << 32, 1<<32 + 1, 1<<32 + 3, 1<<32 + 16,
		math.MaxInt32, math.MaxInt - 1, math.MaxInt,
	}
}

// noMembers are some that a line of so many cells does not have, some of which it
// would have in fewer bytes.
func noMembers(members int) []int {
	return []int{
		math.MinInt, math.MinInt + 1, math.MinInt32, -1 << 32, -1<<32 + 1, -65536, -257, -256, -255, -17, -16, -members - 1, -members, -2, -1,
		members, members + 1, 2 * members, 16, 17, 63, 64, 255, 256, 257, 65536, 65537, 1 << 31, 1 << 32, 1<<32 + 1, 1<<32 + members - 1,
		math.MaxInt32, math.MaxInt - 1, math.MaxInt,
	}
}

// numbers are some with which a cell may be set, rising; some of them would be 0 or
// less than others in fewer bytes, or with a sign.
func numbers() []uint64 {
	return []uint64{
		1, 2, 3, 9, 255, 256, 257, 65535, 65536, 1<<31 - 1, 1 << 31, 1<<32 - 1, 1 << 32, 1<<32 + 1, 1 << 53, 1<<53 + 1,
		1<<63 - 1, 1 << 63, 1<<63 + 1, math.MaxUint64 - 1, math.MaxUint64,
	}
}

// full is a block of one byte.
func full(c byte) (b api.Block) {
	for i := range b {
		b[i] = c
	}
	return b
}

// block is a block of a number, unlike those of all others, all bytes of which count.
func block(n int) (b api.Block) {
	roll := dice(n)
	for i := range b {
		b[i] = byte(roll(256))
	}
	b[0], b[size-1] = byte(n), byte(n>>8)
	return b
}

// dice answers numbers from 0 to below a bound, the same ones for the same seed.
func dice(seed int) func(bound int) int {
	n := uint32(seed)*2654435761 + 12345
	return func(bound int) int {
		n = n*1664525 + 1013904223
		return int(n>>8) % bound
	}
}

func made(t *testing.T, members int) *line.Line {
	t.Helper()
	l, e := line.New(members)
	if e != api.OK || l == nil {
		t.Fatalf("New(%d) = %v, %v", members, l, e)
	}
	return l
}

func wantLearn(t *testing.T, l *line.Line, member int, b api.Block, want api.Errno) {
	t.Helper()
	if e := l.Learn(member, b); e != want {
		t.Errorf("Learn(%d, %x ..) = %v; want %v", member, b[0], e, want)
	}
}

func wantSet(t *testing.T, l *line.Line, member int, b api.Block, seq uint64, want api.Errno) {
	t.Helper()
	if e := l.Set(member, b, seq); e != want {
		t.Errorf("Set(%d, %x .., %d) = %v; want %v", member, b[0], seq, e, want)
	}
}

func wantForget(t *testing.T, l *line.Line, member int, want api.Errno) {
	t.Helper()
	if e := l.Forget(member); e != want {
		t.Errorf("Forget(%d) = %v; want %v", member, e, want)
	}
}

func wantClean(t *testing.T, l *line.Line, want api.Errno) {
	t.Helper()
	if e := l.Clean(); e != want {
		t.Errorf("Clean() = %v; want %v", e, want)
	}
}

func wantKnown(t *testing.T, l *line.Line, member int, want api.Block) {
	t.Helper()
	if b, ok := l.Get(member); b != want || !ok {
		t.Errorf("Get(%d) = %x, %v; want %x, true", member, b, ok, want)
	}
}

func wantUnknown(t *testing.T, l *line.Line, member int) {
	t.Helper()
	if b, ok := l.Get(member); b != (api.Block{}) || ok {
		t.Errorf("Get(%d) = %x, %v; want a block of 0, false", member, b, ok)
	}
}

func wantDirty(t *testing.T, l *line.Line, want ...int) {
	t.Helper()
	if dirty := l.Dirty(); !slices.Equal(dirty, want) {
		t.Errorf("Dirty() = %v; want %v", dirty, want)
	}
}

func wantFirst(t *testing.T, l *line.Line, want uint64) {
	t.Helper()
	if first := l.First(); first != want {
		t.Errorf("First() = %d; want %d", first, want)
	}
}

func wantMembers(t *testing.T, l *line.Line, want int) {
	t.Helper()
	if members := l.Members(); members != want {
		t.Errorf("Members() = %d; want %d", members, want)
	}
}

// deed is one of the things that may be done with a line.
type deed int

const (
	learns deed = iota
	sets
	forgets
	cleans
	deeds
)

// act is a deed on a member: with a block, and with a number, where it is of that kind.
type act struct {
	deed   deed
	member int
	b      api.Block
	seq    uint64
}

func learn(member, n int) act           { return act{learns, member, block(n), 0} }
func set(member, n int, seq uint64) act { return act{sets, member, block(n), seq} }
func forget(member int) act             { return act{deed: forgets, member: member} }
func clean() act                        { return act{deed: cleans} }

func (a act) word() string {
	word := [...]string{"learn ", "set ", "forget ", "clean "}[a.deed] + strconv.Itoa(a.member)
	if a.deed == sets {
		word += " of " + strconv.FormatUint(a.seq, 10)
	}
	return word
}

// past is the acts that were done with a line of so many cells, none of which was
// refused: what the line is is told by it, from its end back.
type past struct {
	members int
	acts    []act
}

// since answers the acts behind the last one of which it is so.
func (p past) since(is func(a act) bool) []act {
	for at := len(p.acts) - 1; at >= 0; at-- {
		if is(p.acts[at]) {
			return p.acts[at+1:]
		}
	}
	return p.acts
}

// get answers what Get must: of the acts behind the last one that forgot the member
// the last one that set it; without one, the first one that told it.
func (p past) get(member int) (b api.Block, ok bool) {
	acts := p.since(func(a act) bool { return a.deed == forgets && a.member == member })
	for _, a := range slices.Backward(acts) {
		if a.deed == sets && a.member == member {
			return a.b, true
		}
	}
	for _, a := range acts {
		if a.deed == learns && a.member == member {
			return a.b, true
		}
	}
	return b, false
}

// dirty answers what Dirty must: the members that were set behind the last act that
// forgot them, and behind the last one that made the line clean.
func (p past) dirty() []int {
	var l []int
	for member := range p.members {
		acts := p.since(func(a act) bool { return a.deed == cleans || a.deed == forgets && a.member == member })
		if slices.ContainsFunc(acts, func(a act) bool { return a.deed == sets && a.member == member }) {
			l = append(l, member)
		}
	}
	return l
}

// first answers what First must.
func (p past) first() uint64 {
	least := uint64(0)
	for _, a := range p.since(func(a act) bool { return a.deed == cleans }) {
		if a.deed == sets && (least == 0 || a.seq < least) {
			least = a.seq
		}
	}
	return least
}

// word is the acts, as a text.
func (p past) word() string {
	word := strconv.Itoa(p.members) + " members"
	for _, a := range p.acts {
		word += "; " + a.word()
	}
	return word
}

// refuses answers what an act must on a line of so many cells.
func (a act) refuses(members int) api.Errno {
	if a.deed != cleans && (a.member < 0 || a.member >= members) || a.deed == sets && a.seq == 0 {
		return api.ErrArg
	}
	return api.OK
}

// do does an act, and answers what the line did.
func (a act) do(l *line.Line) api.Errno {
	switch a.deed {
	case learns:
		return l.Learn(a.member, a.b)
	case sets:
		return l.Set(a.member, a.b, a.seq)
	case forgets:
		return l.Forget(a.member)
	}
	return l.Clean()
}

// pair is a line and its past.
type pair struct {
	l *line.Line
	p past
}

// begun answers a new line behind some acts.
func begun(t *testing.T, members int, acts ...act) *pair {
	t.Helper()
	x := &pair{made(t, members), past{members: members}}
	for _, a := range acts {
		x.take(t, a)
	}
	return x
}

// take does an act on a line, and holds what it answers against what it must.
func (x *pair) take(t *testing.T, a act) {
	t.Helper()
	want := a.refuses(x.p.members)
	if e := a.do(x.l); e != want {
		t.Fatalf("[%s] %s: %v; want %v", x.p.word(), a.word(), e, want)
	}
	if want == api.OK {
		x.p.acts = append(x.p.acts, a)
	}
}

// check holds all that a line tells of itself against its past.
func (x *pair) check(t *testing.T) {
	t.Helper()
	dirty := x.l.Dirty()
	if want := x.p.dirty(); !slices.Equal(dirty, want) {
		t.Fatalf("[%s] Dirty() = %v; want %v", x.p.word(), dirty, want)
	}
	if first, want := x.l.First(), x.p.first(); first != want {
		t.Fatalf("[%s] First() = %d; want %d", x.p.word(), first, want)
	}
	if x.l.Members() != x.p.members {
		t.Fatalf("[%s] Members() = %d", x.p.word(), x.l.Members())
	}
	for member := -1; member <= x.p.members; member++ {
		b, ok := x.l.Get(member)
		if want, is := x.p.get(member); b != want || ok != is {
			t.Fatalf("[%s] Get(%d) = %x, %v; want %x, %v", x.p.word(), member, b, ok, want, is)
		}
		if slices.Contains(dirty, member) && !ok {
			t.Fatalf("[%s] %d is dirty, and not known", x.p.word(), member)
		}
	}
}

func TestExamples(t *testing.T) {
	l := made(t, 3)
	wantLearn(t, l, 1, full(0xaa), api.OK)
	wantSet(t, l, 1, full(0xbb), 7, api.OK)
	wantLearn(t, l, 1, full(0xcc), api.OK)
	wantKnown(t, l, 1, full(0xbb))
	wantSet(t, l, 0, full(0xdd), 9, api.OK)
	wantDirty(t, l, 0, 1)
	wantFirst(t, l, 7)
	wantClean(t, l, api.OK)
	wantDirty(t, l)
	wantFirst(t, l, 0)
	wantKnown(t, l, 1, full(0xbb))
	wantUnknown(t, l, 2)
}

// P17.1 (New, Learn, Set, Forget, Get, Dirty, First, Clean): from here on.

func TestNewOfEachSize(t *testing.T) {
	if api.MaxMembers != maxMembers || api.Size != size {
		t.Fatalf("MaxMembers, Size = %d, %d; want %d, %d", api.MaxMembers, api.Size, maxMembers, size)
	}
	for _, members := range sizes() {
		l := made(t, members)
		wantMembers(t, l, members)
		wantDirty(t, l)
		wantFirst(t, l, 0)
		for member := range members {
			wantUnknown(t, l, member)
		}
		for _, member := range noMembers(maxMembers) {
			wantUnknown(t, l, member)
		}
	}
}

func TestNewOfNoSize(t *testing.T) {
	for _, members := range noSizes() {
		if l, e := line.New(members); l != nil || e != api.ErrArg {
			t.Errorf("New(%d) = %v, %v; want nil, %v", members, l, e, api.ErrArg)
		}
	}
}

// A line that no call made says so, ahead of all else, however often it is asked.
func TestNilAndZero(t *testing.T) {
	for what, l := range map[string]*line.Line{"nil": nil, "zero": {}} {
		t.Run(what, func(t *testing.T) {
			for range 2 {
				for _, member := range append(noMembers(1), 0, 1, 2, maxMembers-1) {
					wantLearn(t, l, member, full(1), api.ErrNil)
					for _, seq := range append(numbers(), 0) {
						wantSet(t, l, member, full(2), seq, api.ErrNil)
					}
					wantForget(t, l, member, api.ErrNil)
					wantUnknown(t, l, member)
				}
				wantClean(t, l, api.ErrNil)
				wantDirty(t, l)
				wantFirst(t, l, 0)
				wantMembers(t, l, 0)
			}
		})
	}
}

// ways are some ways to what a cell may be: not known, known, and dirty.
func ways(member int) map[string][]act {
	return map[string][]act{
		"new":                   nil,
		"learned":               {learn(member, 1)},
		"learned as 0":          {{deed: learns, member: member}},
		"set":                   {set(member, 2, 5)},
		"set as 0":              {{sets, member, api.Block{}, 5}},
		"set with 1":            {set(member, 2, 1)},
		"set far on":            {set(member, 2, math.MaxUint64)},
		"set twice":             {set(member, 2, 5), set(member, 3, 6)},
		"learned and set":       {learn(member, 1), set(member, 2, 5)},
		"set and clean":         {set(member, 2, 5), clean()},
		"learned and clean":     {learn(member, 1), clean()},
		"set, clean, set":       {set(member, 2, 5), clean(), set(member, 3, 8)},
		"learned, forgotten":    {learn(member, 1), forget(member)},
		"set, forgotten":        {set(member, 2, 5), forget(member)},
		"set, clean,forgotten":  {set(member, 2, 5), clean(), forget(member)},
		"set, forgotten,clean":  {set(member, 2, 5), forget(member), clean()},
		"forgotten and learned": {set(member, 2, 5), forget(member), learn(member, 4)},
		"forgotten and set":     {set(member, 2, 5), forget(member), set(member, 4, 9)},
	}
}

// Each act on each thing that a cell may be, of each member of each size; the other
// cells are dirty, known, and not known.
func TestEachActOnEachCell(t *testing.T) {
	for _, members := range sizes() {
		for member := range members {
			acts := []act{
				learn(member, 20), {deed: learns, member: member}, set(member, 21, 1), set(member, 21, 5), set(member, 21, 7),
				set(member, 21, math.MaxUint64), {sets, member, api.Block{}, 3}, set(member, 21, 0), forget(member), clean(),
			}
			for _, way := range ways(member) {
				for _, a := range acts {
					x := begun(t, members, learn((member+1)%members, 30), set((member+2)%members, 31, 6))
					for _, before := range way {
						x.take(t, before)
					}
					x.check(t)
					x.take(t, a)
					x.check(t)
				}
			}
		}
	}
}

// What is known stays, whether it was learned or set, and another block is learned once
// it was forgotten.
func TestLearn(t *testing.T) {
	for _, members := range sizes() {
		for member := range members {
			l := made(t, members)
			wantLearn(t, l, member, block(1), api.OK)
			wantKnown(t, l, member, block(1))
			wantLearn(t, l, member, block(2), api.OK)
			wantKnown(t, l, member, block(1))
			wantDirty(t, l)
			wantFirst(t, l, 0)
			wantSet(t, l, member, block(3), 4, api.OK)
			wantLearn(t, l, member, block(2), api.OK)
			wantKnown(t, l, member, block(3))
			wantDirty(t, l, member)
			wantFirst(t, l, 4)
			wantClean(t, l, api.OK)
			wantLearn(t, l, member, block(2), api.OK)
			wantKnown(t, l, member, block(3))
			wantForget(t, l, member, api.OK)
			wantLearn(t, l, member, block(2), api.OK)
			wantKnown(t, l, member, block(2))
			wantDirty(t, l)
		}
	}
}

// A block of 0 that is known is told from one that is not known.
func TestBlocksOf0(t *testing.T) {
	l := made(t, 3)
	wantLearn(t, l, 0, api.Block{}, api.OK)
	wantKnown(t, l, 0, api.Block{})
	wantLearn(t, l, 0, block(1), api.OK)
	wantKnown(t, l, 0, api.Block{})
	wantSet(t, l, 1, block(1), 3, api.OK)
	wantSet(t, l, 1, api.Block{}, 4, api.OK)
	wantKnown(t, l, 1, api.Block{})
	wantLearn(t, l, 1, block(2), api.OK)
	wantKnown(t, l, 1, api.Block{})
	wantForget(t, l, 1, api.OK)
	wantUnknown(t, l, 1)
	wantUnknown(t, l, 2)
	wantDirty(t, l)
}

// A cell is what it was set to last, of each number, and is dirty once.
func TestSet(t *testing.T) {
	for _, members := range sizes() {
		for member := range members {
			for _, seq := range numbers() {
				l := made(t, members)
				wantSet(t, l, member, block(1), seq, api.OK)
				wantKnown(t, l, member, block(1))
				wantDirty(t, l, member)
				wantFirst(t, l, seq)
				wantSet(t, l, member, block(2), seq, api.OK)
				wantKnown(t, l, member, block(2))
				wantDirty(t, l, member)
				wantFirst(t, l, seq)
			}
		}
	}
}

// Each bit of a block is kept, in each member's cell, by Learn and by Set.
func TestEachBit(t *testing.T) {
	for bit := range 8 * size {
		var b, rest api.Block
		b[bit/8] = 1 << (bit % 8)
		for i := range rest {
			rest[i] = ^b[i]
		}
		for member := range maxMembers {
			l := made(t, maxMembers)
			wantLearn(t, l, member, b, api.OK)
			wantKnown(t, l, member, b)
			wantSet(t, l, member, rest, 1, api.OK)
			wantKnown(t, l, member, rest)
		}
	}
}

// What is forgotten is not known and not dirty; the others stay, and so does the first
// number, also where none is dirty any more.
func TestForget(t *testing.T) {
	for _, members := range sizes() {
		for member := range members {
			l := made(t, members)
			var rest []int
			for other := range members {
				wantSet(t, l, other, block(other), uint64(10+(other+members-member)%members), api.OK)
				if other != member {
					rest = append(rest, other)
				}
			}
			for range 2 {
				wantForget(t, l, member, api.OK)
				wantUnknown(t, l, member)
				wantDirty(t, l, rest...)
				wantFirst(t, l, 10)
				for _, other := range rest {
					wantKnown(t, l, other, block(other))
				}
			}
			for _, other := range rest {
				wantForget(t, l, other, api.OK)
				wantUnknown(t, l, other)
			}
			wantDirty(t, l)
			wantFirst(t, l, 10)
			wantSet(t, l, member, block(99), 12, api.OK)
			wantDirty(t, l, member)
			wantFirst(t, l, 10)
			wantClean(t, l, api.OK)
			wantFirst(t, l, 0)
		}
	}
}

// Whichever members were set, in whatever order, each of them is told once, rising.
func TestDirtyOfEachMix(t *testing.T) {
	for _, members := range []int{1, 2, 3, 4, 7} {
		for mask := range 1 << members {
			want := bits(mask, members)
			for _, order := range orders(want) {
				l := made(t, members)
				for i, member := range order {
					wantSet(t, l, member, block(member), uint64(1+i), api.OK)
				}
				wantDirty(t, l, want...)
			}
		}
	}
	for mask := range 1 << maxMembers {
		want := bits(mask, maxMembers)
		l := made(t, maxMembers)
		for _, member := range slices.Backward(want) {
			l.Set(member, full(byte(member)), 3)
		}
		wantDirty(t, l, want...)
	}
}

// bits are the numbers of a mask's bits that are 1.
func bits(mask, many int) []int {
	var l []int
	for n := range many {
		if mask>>n&1 == 1 {
			l = append(l, n)
		}
	}
	return l
}

// orders are some orders of a list: as it stands, backwards, and from each place on
// round, each of them twice over.
func orders(l []int) [][]int {
	back := slices.Clone(l)
	slices.Reverse(back)
	all := [][]int{l, back}
	for at := range l {
		all = append(all, slices.Concat(l[at:], l[:at]), slices.Concat(back[at:], back[:at], back))
	}
	return all
}

// What is known only is not dirty, next to what is.
func TestDirtyOfSome(t *testing.T) {
	l := made(t, maxMembers)
	for member := range maxMembers {
		wantLearn(t, l, member, block(member), api.OK)
	}
	wantDirty(t, l)
	wantSet(t, l, 9, block(1), 5, api.OK)
	wantDirty(t, l, 9)
	wantSet(t, l, 15, block(2), 5, api.OK)
	wantSet(t, l, 0, block(3), 5, api.OK)
	wantDirty(t, l, 0, 9, 15)
	wantForget(t, l, 9, api.OK)
	wantDirty(t, l, 0, 15)
	wantLearn(t, l, 9, block(4), api.OK)
	wantDirty(t, l, 0, 15)
}

// Two answers share nothing with each other or with the line, the room behind their
// ends too.
func TestDirtySharesNone(t *testing.T) {
	for _, members := range sizes() {
		l := made(t, members)
		var want []int
		for member := 0; member < members; member += 2 {
			wantSet(t, l, member, block(member), 1, api.OK)
			want = append(want, member)
		}
		a, b := l.Dirty(), l.Dirty()
		a = a[:cap(a)]
		for i := range a {
			a[i] = -1
		}
		if !slices.Equal(b, want) {
			t.Errorf("Dirty() is another one, since another answer was changed: %v", b)
		}
		wantDirty(t, l, want...)
		wantForget(t, l, 0, api.OK)
		wantClean(t, l, api.OK)
		if !slices.Equal(b, want) {
			t.Errorf("Dirty() is another one, since the line was made clean: %v", b)
		}
	}
}

// The least of two numbers, and of three, in whatever order, of one cell and of several.
func TestFirst(t *testing.T) {
	all := numbers()
	for _, one := range all {
		for _, two := range all {
			for _, member := range []int{0, 1} {
				l := made(t, 3)
				wantSet(t, l, 0, block(1), one, api.OK)
				wantSet(t, l, member, block(2), two, api.OK)
				wantFirst(t, l, min(one, two))
				for _, three := range all {
					wantSet(t, l, 2, block(3), three, api.OK)
					wantFirst(t, l, min(one, two, three))
					wantClean(t, l, api.OK)
					wantFirst(t, l, 0)
					wantSet(t, l, 0, block(1), one, api.OK)
					wantSet(t, l, member, block(2), two, api.OK)
				}
			}
		}
	}
}

func TestFirstOfRisingAndFalling(t *testing.T) {
	up, down := made(t, maxMembers), made(t, maxMembers)
	all := numbers()
	for i, seq := range all {
		wantSet(t, up, i%maxMembers, block(i), seq, api.OK)
		wantFirst(t, up, 1)
		wantSet(t, down, i%maxMembers, block(i), all[len(all)-1-i], api.OK)
		wantFirst(t, down, all[len(all)-1-i])
	}
}

// Behind Clean the numbers ahead of it count no more, whether they were less or greater.
func TestFirstBehindClean(t *testing.T) {
	l := made(t, 3)
	wantSet(t, l, 0, block(1), 7, api.OK)
	wantClean(t, l, api.OK)
	wantFirst(t, l, 0)
	wantSet(t, l, 0, block(2), 9, api.OK)
	wantFirst(t, l, 9)
	wantSet(t, l, 1, block(3), 8, api.OK)
	wantFirst(t, l, 8)
	wantClean(t, l, api.OK)
	wantClean(t, l, api.OK)
	wantFirst(t, l, 0)
	wantSet(t, l, 2, block(4), 2, api.OK)
	wantFirst(t, l, 2)
	wantLearn(t, l, 2, block(5), api.OK)
	wantFirst(t, l, 2)
	wantForget(t, l, 2, api.OK)
	wantFirst(t, l, 2)
	wantLearn(t, l, 2, block(5), api.OK)
	wantFirst(t, l, 2)
}

// Behind Clean none is dirty, and what is known stays: what was learned, and what was set.
func TestClean(t *testing.T) {
	for _, members := range sizes() {
		l := made(t, members)
		for member := range members {
			switch member % 3 {
			case 0:
				wantSet(t, l, member, block(member), uint64(20-member), api.OK)
			case 1:
				wantLearn(t, l, member, block(member), api.OK)
			}
		}
		for range 2 {
			wantClean(t, l, api.OK)
			wantDirty(t, l)
			wantFirst(t, l, 0)
			wantMembers(t, l, members)
			for member := range members {
				if member%3 == 2 {
					wantUnknown(t, l, member)
				} else {
					wantKnown(t, l, member, block(member))
				}
			}
		}
		wantSet(t, l, members-1, block(50), 30, api.OK)
		wantDirty(t, l, members-1)
		wantFirst(t, l, 30)
		wantKnown(t, l, members-1, block(50))
	}
}

// A new line may be made clean, too.
func TestCleanOfNew(t *testing.T) {
	for _, members := range sizes() {
		x := begun(t, members, clean(), clean())
		x.check(t)
	}
}

// P17.2 (what follows): from here on.

// rows calls a function with each row of so many acts.
func rows(acts func(at int) []act, many int, do func(row []act)) {
	var grow func(row []act)
	grow = func(row []act) {
		do(row)
		if len(row) == many {
			return
		}
		for _, a := range acts(len(row)) {
			grow(append(slices.Clone(row), a))
		}
	}
	grow(nil)
}

// kinds are all the kinds of acts on so many cells, with some numbers; each act of a
// row has a block of its own.
func kinds(members int, seqs ...uint64) func(at int) []act {
	return func(at int) []act {
		all := []act{clean()}
		for member := range members {
			all = append(all, learn(member, at+1), forget(member))
			for _, seq := range seqs {
				all = append(all, set(member, at+1, seq))
			}
		}
		return all
	}
}

// Each row of a few acts: of what it leaves behind all is told by its past.
func TestEachRowOfActs(t *testing.T) {
	for _, c := range []struct {
		members, many int
		seqs          []uint64
	}{{1, 6, []uint64{1, 2}}, {1, 5, []uint64{1, 2, 3}}, {2, 4, []uint64{1, 2}}, {2, 5, []uint64{4}}, {3, 3, []uint64{1, 2, math.MaxUint64}}, {3, 4, []uint64{1}}} {
		rows(kinds(c.members, c.seqs...), c.many, func(row []act) {
			begun(t, c.members, row...).check(t)
		})
	}
}

// anyAct answers one on so many cells, now and then one that is refused.
func anyAct(roll func(int) int, n, members int, weights [deeds]int) act {
	a := act{deed: weighed(roll, weights), member: roll(members)}
	if roll(20) == 0 {
		bad := noMembers(members)
		a.member = bad[roll(len(bad))]
	}
	if a.deed == learns || a.deed == sets {
		a.b = block(n)
	}
	if a.deed == sets {
		a.seq = anySeq(roll, n)
	}
	if a.deed == cleans {
		a.member = 0
	}
	return a
}

// anySeq answers a number: rising as records' do, or far from those, or none.
func anySeq(roll func(int) int, n int) uint64 {
	all := numbers()
	switch roll(10) {
	case 0:
		return 0
	case 1:
		return all[roll(len(all))]
	case 2, 3:
		return uint64(1 + roll(n+1))
	}
	return uint64(n + 1)
}

// weighed answers a deed, the more often the more it weighs.
func weighed(roll func(int) int, weights [deeds]int) deed {
	all := 0
	for _, w := range weights {
		all += w
	}
	n := roll(all)
	for d, w := range weights {
		if n < w {
			return deed(d)
		}
		n -= w
	}
	return learns
}

// Long rows of acts, with many of a kind among them, behind each of which all is told
// by the past.
func TestLongRowsOfActs(t *testing.T) {
	for _, members := range sizes() {
		for mix, weights := range [][deeds]int{{1, 1, 1, 1}, {8, 8, 1, 1}, {4, 4, 8, 1}, {8, 2, 4, 1}, {20, 40, 20, 1}} {
			roll := dice(100*members + mix)
			x := begun(t, members)
			for n := range 150 {
				x.take(t, anyAct(roll, n, members, weights))
				x.check(t)
			}
		}
	}
}

// What was set is told behind all that may be done with it but Set and Forget of it, as
// often as that is done.
func TestSetIsTold(t *testing.T) {
	for _, members := range sizes() {
		for member := range members {
			l := made(t, members)
			wantSet(t, l, member, block(7), 40, api.OK)
			for n := range 30 {
				wantLearn(t, l, member, block(8+n), api.OK)
				wantSet(t, l, member, block(8+n), 0, api.ErrArg)
				if other := n % members; other != member {
					wantSet(t, l, other, block(9+n), uint64(1+n), api.OK)
					wantForget(t, l, other, api.OK)
					wantLearn(t, l, other, block(10+n), api.OK)
				}
				if n%7 == 6 {
					wantClean(t, l, api.OK)
				}
				wantKnown(t, l, member, block(7))
			}
			wantSet(t, l, member, block(1), 50, api.OK)
			wantKnown(t, l, member, block(1))
			wantForget(t, l, member, api.OK)
			wantUnknown(t, l, member)
		}
	}
}

// The rules that hold everywhere: from here on.

// A call that is refused changes nothing, whatever the line was.
func TestErrorsChangeNothing(t *testing.T) {
	for _, members := range sizes() {
		for _, way := range ways(members - 1) {
			x := begun(t, members, way...)
			x.check(t)
			for _, member := range noMembers(members) {
				wantLearn(t, x.l, member, block(60), api.ErrArg)
				for _, seq := range []uint64{0, 1, 4, math.MaxUint64} {
					wantSet(t, x.l, member, block(61), seq, api.ErrArg)
				}
				wantForget(t, x.l, member, api.ErrArg)
				wantUnknown(t, x.l, member)
			}
			x.check(t)
			for member := range members {
				wantSet(t, x.l, member, block(62), 0, api.ErrArg)
				x.check(t)
			}
		}
	}
}

// What is handed in and what is answered are copies: who changes one changes no line.
func TestBlocksAreCopies(t *testing.T) {
	l := made(t, 2)
	b := block(1)
	wantLearn(t, l, 0, b, api.OK)
	wantSet(t, l, 1, b, 2, api.OK)
	b[0], b[size-1] = ^b[0], ^b[size-1]
	wantKnown(t, l, 0, block(1))
	wantKnown(t, l, 1, block(1))
	for member := range 2 {
		one, _ := l.Get(member)
		two, _ := l.Get(member)
		one[5] = ^one[5]
		if two != block(1) {
			t.Errorf("Get(%d) is another one, since another answer was changed: %x", member, two)
		}
		wantKnown(t, l, member, block(1))
	}
	held, _ := l.Get(1)
	wantSet(t, l, 1, block(3), 3, api.OK)
	wantForget(t, l, 1, api.OK)
	if held != block(1) {
		t.Errorf("Get(1) is another one, since the cell was set: %x", held)
	}
}

// Two lines side by side are each as if the other was not.
func TestLinesAreApart(t *testing.T) {
	for _, members := range [][2]int{{1, 1}, {2, 2}, {3, 5}, {maxMembers, 1}, {maxMembers, maxMembers}} {
		roll := dice(100*members[0] + members[1])
		both := [2]*pair{begun(t, members[0]), begun(t, members[1])}
		for n := range 200 {
			i := roll(2)
			both[i].take(t, anyAct(roll, n, members[i], [deeds]int{6, 6, 3, 1}))
			both[0].check(t)
			both[1].check(t)
		}
	}
}

// Get, Dirty, First and Members change nothing.
func TestAskingChangesNothing(t *testing.T) {
	for _, members := range sizes() {
		for _, way := range ways(0) {
			x := begun(t, members, way...)
			for range 3 {
				x.check(t)
			}
		}
	}
}

// What a call answers hangs on what the line was given alone.
func TestAnswersAgain(t *testing.T) {
	for range 20 {
		l := made(t, 5)
		wantSet(t, l, 4, block(1), 9, api.OK)
		wantSet(t, l, 2, block(2), 6, api.OK)
		wantLearn(t, l, 3, block(3), api.OK)
		wantSet(t, l, 0, block(4), 8, api.OK)
		wantForget(t, l, 2, api.OK)
		wantDirty(t, l, 0, 4)
		wantFirst(t, l, 6)
		wantKnown(t, l, 3, block(3))
		wantUnknown(t, l, 1)
		wantUnknown(t, l, 2)
	}
}
