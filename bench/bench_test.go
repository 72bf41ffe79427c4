package bench_test

import (
	"slices"
	"testing"

	"ashlar/api"
	"ashlar/bench"
	"ashlar/disk"
)

const (
	top    = int(^uint(0) >> 1)
	bottom = -top - 1
)

// The document's numbers, written out, so that a limit that is asked wrongly is told.
const (
	size       = 64
	maxSectors = 512
	maxDevices = 17
)

// far are numbers far beyond what anything counts, on both sides.
func far() []int {
	return []int{bottom, bottom + 1, bottom / 2, -1 << 32, -1 << 31, -1000, 1000, 1 << 31, 1 << 32, top / 2, top - 1, top}
}

// beyond are the numbers next to those from 0 to below many, on both sides, and far ones.
func beyond(many int) []int {
	l := append(far(), -many-1, -many, -2, -1, many, many+1, many+2, 2*many)
	return slices.DeleteFunc(l, func(n int) bool { return n >= 0 && n < many })
}

// edges are the numbers at both ends of those from 0 to below many, and between.
func edges(many int) []int {
	l := []int{0, 1, many / 2, many - 2, many - 1}
	l = slices.DeleteFunc(l, func(n int) bool { return n < 0 || n >= many })
	slices.Sort(l)
	return slices.Compact(l)
}

// all answers a block of one byte, again and again.
func all(c byte) api.Block {
	var b api.Block
	for i := range b {
		b[i] = c
	}
	return b
}

// some answers a block of all kinds of bytes, another one for each seed.
func some(seed int) api.Block {
	var b api.Block
	n := uint32(seed)*2654435761 + 12345
	for i := range b {
		n = n*1664525 + 1013904223
		b[i] = byte(n >> 24)
	}
	return b
}

// at answers the block that filled writes to a device's sector.
func at(d, n int) api.Block { return some(1000*d + n) }

// start answers a block that begins with so many bytes of one, and goes on as another.
func start(many int, b, rest api.Block) api.Block {
	for i := range rest {
		if i < many {
			rest[i] = b[i]
		}
	}
	return rest
}

// spoilt answers a block of which a byte is another one.
func spoilt(b api.Block, at int, by byte) api.Block {
	b[at] = (b[at] | by) - (b[at] & by)
	return b
}

// keep are so many numbers that keep a write as a whole.
func keep(many int) []int { return slices.Repeat([]int{size}, many) }

// rows are the sizes of the benches that most tests look at.
func rows() [][]int {
	return [][]int{{1}, {maxSectors}, {2, 2}, {1, 2, 3}, {3, 1, 4, 1, 5}, slices.Repeat([]int{6}, maxDevices), {66, 66, 66, 66, 298}}
}

// made answers a bench of such devices.
func made(t *testing.T, sizes ...int) *bench.Bench {
	t.Helper()
	b, e := bench.New(sizes)
	if b == nil || e != api.OK {
		t.Fatalf("New(%v) = %v, %v", sizes, b, e)
	}
	return b
}

// filled answers a bench of such devices, each sector of which is surely at(its device, its number).
func filled(t *testing.T, sizes ...int) *bench.Bench {
	t.Helper()
	b := made(t, sizes...)
	for d, many := range sizes {
		for n := range many {
			wantOK(t, "Write", b.Write(d, n, at(d, n)))
		}
		wantOK(t, "Flush", b.Flush(d))
	}
	return b
}

// busy answers a bench with sure sectors, writes that are not sure, a spoilt
// byte, a device that failed, and a power that is to be cut at the third step.
func busy(t *testing.T) *bench.Bench {
	t.Helper()
	b := filled(t, 4, 2, 3)
	for i, to := range [][2]int{{0, 1}, {2, 2}, {1, 0}, {0, 3}, {0, 1}, {2, 0}} {
		wantOK(t, "Write", b.Write(to[0], to[1], some(50+i)))
	}
	wantOK(t, "Rot", b.Rot(0, 1, 63, 0x10))
	wantOK(t, "Fail", b.Fail(1))
	wantOK(t, "Arm", b.Arm(3))
	return b
}

// dark answers a busy bench whose power was cut.
func dark(t *testing.T) *bench.Bench {
	t.Helper()
	b := busy(t)
	darken(t, b)
	return b
}

// darken cuts a bench's power at the next step.
func darken(t *testing.T, b *bench.Bench) {
	t.Helper()
	wantOK(t, "Arm", b.Arm(1))
	for d := range b.Devices() {
		if !b.Dead(d) {
			want(t, "Flush, at which the power is cut", b.Flush(d), api.ErrPower)
			wantDark(t, b, true)
			return
		}
	}
	t.Fatal("all devices are dead: no step darkens the bench")
}

func want(t *testing.T, what string, got, want api.Errno) {
	t.Helper()
	if got != want {
		t.Errorf("%s: %v; want %v", what, got, want)
	}
}

func wantOK(t *testing.T, what string, e api.Errno) {
	t.Helper()
	want(t, what, e, api.OK)
}

func wantRead(t *testing.T, b *bench.Bench, d, n int, x api.Block) {
	t.Helper()
	if got, e := b.Read(d, n); got != x || e != api.OK {
		t.Errorf("Read(%d, %d) = %x, %v; want %x", d, n, got, e, x)
	}
}

func wantSure(t *testing.T, b *bench.Bench, d, n int, x api.Block) {
	t.Helper()
	if got, e := b.Sure(d, n); got != x || e != api.OK {
		t.Errorf("Sure(%d, %d) = %x, %v; want %x", d, n, got, e, x)
	}
}

// wantBoth wants that a sector is surely what is read there.
func wantBoth(t *testing.T, b *bench.Bench, d, n int, x api.Block) {
	t.Helper()
	wantRead(t, b, d, n, x)
	wantSure(t, b, d, n, x)
}

// wantNoRead wants that a sector is neither read nor written.
func wantNoRead(t *testing.T, b *bench.Bench, d, n int, e api.Errno) {
	t.Helper()
	if got, f := b.Read(d, n); got != (api.Block{}) || f != e {
		t.Errorf("Read(%d, %d) = %x, %v; want 0, %v", d, n, got, f, e)
	}
	want(t, "Write", b.Write(d, n, all(0xee)), e)
}

// wantNoSure wants that nobody is told what is sure of a sector, nor spoils it.
func wantNoSure(t *testing.T, b *bench.Bench, d, n int, e api.Errno) {
	t.Helper()
	if got, f := b.Sure(d, n); got != (api.Block{}) || f != e {
		t.Errorf("Sure(%d, %d) = %x, %v; want 0, %v", d, n, got, f, e)
	}
	want(t, "Rot", b.Rot(d, n, 0, 0xee), e)
}

func wantSteps(t *testing.T, b *bench.Bench, many int) {
	t.Helper()
	if got := b.Steps(); got != many {
		t.Errorf("Steps() = %d; want %d", got, many)
	}
}

func wantDark(t *testing.T, b *bench.Bench, dark bool) {
	t.Helper()
	if got := b.Dark(); got != dark {
		t.Errorf("Dark() = %v", got)
	}
}

func wantDead(t *testing.T, b *bench.Bench, d int, dead bool) {
	t.Helper()
	if got := b.Dead(d); got != dead {
		t.Errorf("Dead(%d) = %v", d, got)
	}
}

func wantSectors(t *testing.T, b *bench.Bench, d, many int) {
	t.Helper()
	if got := b.Sectors(d); got != many {
		t.Errorf("Sectors(%d) = %d; want %d", d, got, many)
	}
}

func wantDevices(t *testing.T, b *bench.Bench, many int) {
	t.Helper()
	if got := b.Devices(); got != many {
		t.Errorf("Devices() = %d; want %d", got, many)
	}
}

// fuse tells at which step from here on a bench's power is cut: 0, if at none
// of many, or if it is dark. A device that is alive is flushed in a copy.
func fuse(b *bench.Bench) int {
	c := b.Copy()
	for d := range c.Devices() {
		if c.Dead(d) || c.Dark() {
			continue
		}
		for i := range 200 {
			if c.Flush(d) == api.ErrPower {
				return i + 1
			}
		}
		return 0
	}
	return 0
}

// wantFuse wants that the power is cut at such a step from here on, and not ahead of it.
func wantFuse(t *testing.T, b *bench.Bench, n int) {
	t.Helper()
	if got := fuse(b); got != n {
		t.Errorf("the power is cut at step %d; want %d", got, n)
	}
}

// sameSectors wants that each sector of two benches is the same, in all that can be asked of it.
func sameSectors(t *testing.T, a, b *bench.Bench) {
	t.Helper()
	for d := range b.Devices() {
		wantSectors(t, a, d, b.Sectors(d))
		wantDead(t, a, d, b.Dead(d))
		for n := range b.Sectors(d) {
			r, e := a.Read(d, n)
			if x, f := b.Read(d, n); r != x || e != f {
				t.Errorf("Read(%d, %d) = %x, %v; want %x, %v", d, n, r, e, x, f)
			}
			r, e = a.Sure(d, n)
			if x, f := b.Sure(d, n); r != x || e != f {
				t.Errorf("Sure(%d, %d) = %x, %v; want %x, %v", d, n, r, e, x, f)
			}
		}
	}
}

// sameBenches wants that nothing tells two benches from each other, also behind a cut.
func sameBenches(t *testing.T, a, b *bench.Bench) {
	t.Helper()
	wantDevices(t, a, b.Devices())
	wantDark(t, a, b.Dark())
	wantSteps(t, a, b.Steps())
	wantFuse(t, a, fuse(b))
	sameSectors(t, a, b)
	for _, picks := range [][]int{nil, keep(100), {1, 64, 20, 0, 63, 7}} {
		x, y := a.Copy(), b.Copy()
		wantOK(t, "Crash", x.Crash(picks))
		wantOK(t, "Crash", y.Crash(picks))
		sameSectors(t, x, y)
	}
}

func TestExamples(t *testing.T) {
	for _, l := range [][]int{nil, {}} {
		if b, e := bench.New(l); b != nil || e != api.ErrArg {
			t.Errorf("New(%v) = %v, %v", l, b, e)
		}
	}
	b := made(t, 2, 2)
	wantOK(t, "Arm", b.Arm(2))
	wantOK(t, "Write", b.Write(0, 0, all(0x11)))
	want(t, "Write", b.Write(1, 0, all(0x22)), api.ErrPower)
	wantDark(t, b, true)
	_, e := b.Read(0, 0)
	want(t, "Read", e, api.ErrPower)
	wantOK(t, "Crash", b.Crash(nil))
	x, e := b.Read(0, 0)
	if x[0] != 0 || e != api.OK {
		t.Errorf("Read(0, 0) = %x, %v", x, e)
	}
	want(t, "Insert", b.Insert(0), api.ErrState)
	wantSteps(t, b, 1)
}

// Rule 5 (objects that no call made): a nil pointer and a zero object.

func TestNilAndZero(t *testing.T) {
	for _, b := range []*bench.Bench{nil, {}, new(bench.Bench)} {
		for _, d := range append(beyond(maxDevices), 0, 1, maxDevices-1) {
			for _, n := range []int{bottom, -1, 0, 1, maxSectors, top} {
				wantNoRead(t, b, d, n, api.ErrNil)
				wantNoSure(t, b, d, n, api.ErrNil)
				want(t, "Rot", b.Rot(0, 0, n, 1), api.ErrNil)
			}
			want(t, "Flush", b.Flush(d), api.ErrNil)
			want(t, "Fail", b.Fail(d), api.ErrNil)
			want(t, "Insert", b.Insert(d), api.ErrNil)
			want(t, "Arm", b.Arm(d), api.ErrNil)
			wantDead(t, b, d, false)
			wantSectors(t, b, d, 0)
		}
		for _, l := range [][]int{nil, {}, {0}, {size}, far()} {
			want(t, "Crash", b.Crash(l), api.ErrNil)
		}
		wantDevices(t, b, 0)
		wantSteps(t, b, 0)
		wantDark(t, b, false)
		if c := b.Copy(); c != nil {
			t.Errorf("Copy() = %v", c)
		}
	}
}

// P6.1 (New, Read, Write, Flush): from here on.

func TestNewOfEachLength(t *testing.T) {
	for many := 1; many <= maxDevices; many++ {
		var sizes []int
		for d := range many {
			sizes = append(sizes, []int{1, maxSectors, 2, maxSectors - 1, 66}[(d+many)%5])
		}
		b := made(t, sizes...)
		wantDevices(t, b, many)
		wantSteps(t, b, 0)
		wantDark(t, b, false)
		wantFuse(t, b, 0)
		for d, sectors := range sizes {
			wantSectors(t, b, d, sectors)
			wantDead(t, b, d, false)
			for n := range sectors {
				wantBoth(t, b, d, n, api.Block{})
			}
		}
	}
}

func TestNewOfEachSize(t *testing.T) {
	for sectors := 1; sectors <= maxSectors; sectors++ {
		b := made(t, sectors, 1, sectors)
		for d, many := range []int{sectors, 1, sectors} {
			wantSectors(t, b, d, many)
			wantBoth(t, b, d, many-1, api.Block{})
			wantNoSure(t, b, d, many, api.ErrArg)
		}
	}
}

func TestNewOfNoLength(t *testing.T) {
	for _, many := range []int{0, maxDevices + 1, maxDevices + 2, 2 * maxDevices, 1000} {
		for _, sectors := range []int{1, 66, maxSectors, 0, maxSectors + 1} {
			if b, e := bench.New(slices.Repeat([]int{sectors}, many)); b != nil || e != api.ErrArg {
				t.Errorf("New of %d devices of %d = %v, %v", many, sectors, b, e)
			}
		}
	}
}

// One device that may not be is enough, wherever it stands.
func TestNewOfNoSize(t *testing.T) {
	wrong := append(far(), -maxSectors, -2, -1, 0, maxSectors+1, maxSectors+2, 2*maxSectors)
	for many := 1; many <= maxDevices; many++ {
		for place := range many {
			for _, sectors := range wrong {
				sizes := slices.Repeat([]int{3}, many)
				sizes[place] = sectors
				if b, e := bench.New(sizes); b != nil || e != api.ErrArg {
					t.Errorf("New(%v) = %v, %v", sizes, b, e)
				}
			}
		}
	}
}

// What is written is read at once, there alone, and sure behind a Flush of its device alone.
func TestWriteOfEachSector(t *testing.T) {
	for _, sizes := range rows() {
		b, steps := made(t, sizes...), 0
		for d, many := range sizes {
			for n := range many {
				wantOK(t, "Write", b.Write(d, n, at(d, n)))
				steps++
				wantSteps(t, b, steps)
				wantRead(t, b, d, n, at(d, n))
				wantSure(t, b, d, n, api.Block{})
			}
		}
		for flushed := range sizes {
			wantOK(t, "Flush", b.Flush(flushed))
			steps++
			wantSteps(t, b, steps)
			for d, many := range sizes {
				for n := range many {
					sure := api.Block{}
					if d <= flushed {
						sure = at(d, n)
					}
					wantRead(t, b, d, n, at(d, n))
					wantSure(t, b, d, n, sure)
				}
			}
		}
	}
}

func TestWriteOfOneSector(t *testing.T) {
	for _, sizes := range [][]int{{3}, {2, 2}, {1, 2, 3}, slices.Repeat([]int{2}, maxDevices)} {
		for to, sectors := range sizes {
			for here := range sectors {
				b, kept := filled(t, sizes...), filled(t, sizes...)
				wantOK(t, "Write", b.Write(to, here, all(0xa5)))
				wantRead(t, b, to, here, all(0xa5))
				wantSure(t, b, to, here, at(to, here))
				wantOK(t, "Write back", b.Write(to, here, at(to, here)))
				sameSectors(t, b, kept)
			}
		}
	}
}

func TestNoDevice(t *testing.T) {
	for _, sizes := range rows() {
		b, kept := filled(t, sizes...), filled(t, sizes...)
		for _, d := range beyond(len(sizes)) {
			for _, n := range append(far(), -1, 0, 1, maxSectors-1, maxSectors) {
				wantNoRead(t, b, d, n, api.ErrArg)
				wantNoSure(t, b, d, n, api.ErrArg)
				want(t, "Rot", b.Rot(d, 0, n, 1), api.ErrArg)
			}
			want(t, "Flush", b.Flush(d), api.ErrArg)
			want(t, "Fail", b.Fail(d), api.ErrArg)
			want(t, "Insert", b.Insert(d), api.ErrArg)
			wantDead(t, b, d, false)
			wantSectors(t, b, d, 0)
		}
		sameBenches(t, b, kept)
	}
}

func TestNoSector(t *testing.T) {
	for _, sizes := range rows() {
		b, kept := filled(t, sizes...), filled(t, sizes...)
		for d, many := range sizes {
			for _, n := range beyond(many) {
				wantNoRead(t, b, d, n, api.ErrArg)
				wantNoSure(t, b, d, n, api.ErrArg)
			}
		}
		sameBenches(t, b, kept)
	}
}

func TestDeadDevice(t *testing.T) {
	for _, sizes := range rows() {
		for d, many := range sizes {
			b := filled(t, sizes...)
			wantOK(t, "Write", b.Write(d, 0, all(1)))
			steps := b.Steps()
			wantOK(t, "Fail", b.Fail(d))
			for range 2 {
				for _, n := range edges(many) {
					wantNoRead(t, b, d, n, api.ErrDead)
					wantNoSure(t, b, d, n, api.ErrDead)
				}
				for _, n := range beyond(many) {
					wantNoRead(t, b, d, n, api.ErrArg)
					wantNoSure(t, b, d, n, api.ErrArg)
				}
				want(t, "Flush", b.Flush(d), api.ErrDead)
				wantDead(t, b, d, true)
				wantSectors(t, b, d, many)
				wantSteps(t, b, steps)
				wantOK(t, "Fail again", b.Fail(d))
				b = b.Copy()
			}
			for other, many := range sizes {
				for n := 0; other != d && n < many; n++ {
					wantDead(t, b, other, false)
					wantBoth(t, b, other, n, at(other, n))
				}
			}
		}
	}
}

// P6.1, P6.4: the power is cut at a step; it is not done, and not counted.

// Writes and flushes by turns, with the power cut at each of the first steps.
func TestArmOfEachStep(t *testing.T) {
	for n := 1; n <= 12; n++ {
		b := filled(t, 2, 2)
		ahead := b.Steps()
		wantOK(t, "Arm", b.Arm(n))
		for i := 1; i < n; i++ {
			if i%3 == 0 {
				wantOK(t, "Flush", b.Flush(i%2))
			} else {
				wantOK(t, "Write", b.Write(i%2, 0, some(i)))
			}
			wantSteps(t, b, ahead+i)
			wantDark(t, b, false)
		}
		kept, written := b.Copy(), b.Copy()
		want(t, "Write at the cut", written.Write(0, 1, all(0xee)), api.ErrPower)
		want(t, "Flush at the cut", b.Flush(1), api.ErrPower)
		wantOK(t, "Arm", kept.Arm(0))
		for _, c := range []*bench.Bench{b, written} {
			wantDark(t, c, true)
			wantSteps(t, c, ahead+n-1)
			for range 3 {
				wantNoRead(t, c, 0, 0, api.ErrPower)
				want(t, "Flush", c.Flush(1), api.ErrPower)
			}
			wantSteps(t, c, ahead+n-1)
			for _, picks := range [][]int{nil, keep(20), {9, 64, 8}} {
				cut, light := c.Copy(), kept.Copy()
				wantOK(t, "Crash", cut.Crash(picks))
				wantOK(t, "Crash", light.Crash(picks))
				sameBenches(t, cut, light)
			}
		}
	}
}

// n steps or more, and the bench is dark: n - 1 were done. Fewer, and it is not.
func TestArmFarAbove(t *testing.T) {
	for _, n := range []int{50, 199, 1000, 1 << 31, 1 << 32, top - 1, top} {
		b := made(t, 3, 3)
		wantOK(t, "Arm", b.Arm(n))
		done := min(n-1, 1500)
		for i := range done {
			wantOK(t, "Flush", b.Flush(i%2))
		}
		wantDark(t, b, false)
		wantSteps(t, b, done)
		if done == n-1 {
			want(t, "Flush at the cut", b.Flush(1), api.ErrPower)
			wantDark(t, b, true)
			wantSteps(t, b, done)
		}
	}
}

func TestArmOfNone(t *testing.T) {
	b := made(t, 1, 2)
	for i := range 1000 {
		if i%100 == 0 {
			wantOK(t, "Arm", b.Arm(0))
		}
		wantOK(t, "Write", b.Write(1, i%2, some(i)))
		wantOK(t, "Flush", b.Flush(i%2))
		wantDark(t, b, false)
		wantSteps(t, b, 2*i+2)
	}
}

func TestArmBelowZero(t *testing.T) {
	for _, ahead := range []int{0, 1, 5} {
		b := filled(t, 2, 2)
		wantOK(t, "Arm", b.Arm(ahead))
		for _, n := range append(far(), -3, -2, -1) {
			if n < 0 {
				want(t, "Arm", b.Arm(n), api.ErrArg)
				wantDark(t, b, false)
			}
		}
		wantFuse(t, b, ahead)
	}
}

// An Arm ahead of another one is let go; steps that were done between them do not count.
func TestArmAgain(t *testing.T) {
	for _, first := range []int{0, 3, 4, 9, top} {
		for _, second := range []int{0, 1, 2, 3, 7, 50} {
			for between := range 3 {
				b := filled(t, 2, 2)
				wantOK(t, "Arm", b.Arm(first))
				for range between {
					wantOK(t, "Flush", b.Flush(0))
				}
				wantOK(t, "Arm again", b.Arm(second))
				wantFuse(t, b, second)
			}
		}
	}
}

// What is refused is no step: it does not bring the cut nearer, and is told ahead of it.
func TestRefusedIsNoStep(t *testing.T) {
	for n := range 5 {
		b := filled(t, 2, 3, 2)
		wantOK(t, "Fail", b.Fail(1))
		wantOK(t, "Arm", b.Arm(n))
		steps := b.Steps()
		for range 10 {
			want(t, "Write of no device", b.Write(3, 0, all(1)), api.ErrArg)
			want(t, "Write of no device", b.Write(-1, 0, all(1)), api.ErrArg)
			want(t, "Write of no sector", b.Write(0, 2, all(1)), api.ErrArg)
			want(t, "Write of no sector", b.Write(0, -1, all(1)), api.ErrArg)
			want(t, "Write of no sector of a dead device", b.Write(1, 3, all(1)), api.ErrArg)
			want(t, "Write of a dead device", b.Write(1, 2, all(1)), api.ErrDead)
			want(t, "Flush of no device", b.Flush(3), api.ErrArg)
			want(t, "Flush of no device", b.Flush(-1), api.ErrArg)
			want(t, "Flush of a dead device", b.Flush(1), api.ErrDead)
		}
		wantDark(t, b, false)
		wantSteps(t, b, steps)
		wantFuse(t, b, n)
	}
}

// Nothing but a Write and a Flush is a step.
func TestOthersAreNoSteps(t *testing.T) {
	b := filled(t, 2, 3, 2)
	steps := b.Steps()
	wantOK(t, "Arm", b.Arm(1))
	for range 5 {
		wantBoth(t, b, 0, 1, at(0, 1))
		wantOK(t, "Rot", b.Rot(0, 0, 0, 1))
		wantOK(t, "Fail", b.Fail(1))
		wantOK(t, "Insert", b.Insert(1))
		want(t, "Insert", b.Insert(2), api.ErrState)
		b.Copy()
		b.Devices()
		b.Sectors(0)
		b.Dead(0)
		b.Dark()
		b.Steps()
	}
	wantDark(t, b, false)
	wantSteps(t, b, steps)
	wantFuse(t, b, 1)
	for range 5 {
		wantOK(t, "Crash", b.Crash(nil))
	}
	wantSteps(t, b, steps)
}

// P6.1 to P6.3: every method in the dark.

func TestInTheDark(t *testing.T) {
	b := dark(t)
	steps := b.Steps()
	for range 2 {
		for _, d := range append(beyond(3), 0, 1, 2) {
			for _, n := range []int{bottom, -1, 0, 1, 2, 3, 4, maxSectors, top} {
				wantNoRead(t, b, d, n, api.ErrPower)
			}
			want(t, "Flush", b.Flush(d), api.ErrPower)
			want(t, "Insert", b.Insert(d), api.ErrPower)
			want(t, "Arm", b.Arm(d), api.ErrPower)
		}
		wantDark(t, b, true)
		wantSteps(t, b, steps)
		wantDevices(t, b, 3)
		for d, many := range []int{4, 2, 3} {
			wantSectors(t, b, d, many)
			wantDead(t, b, d, d == 1)
		}
		sameBenches(t, b, dark(t))
		b = b.Copy()
	}
}

// Fail, Sure and Rot are as in the light, errors too.
func TestFailSureAndRotInTheDark(t *testing.T) {
	b := dark(t)
	for _, d := range beyond(3) {
		wantNoSure(t, b, d, 0, api.ErrArg)
		want(t, "Fail", b.Fail(d), api.ErrArg)
	}
	for d, many := range []int{4, 2, 3} {
		for _, n := range beyond(many) {
			wantNoSure(t, b, d, n, api.ErrArg)
		}
		for _, x := range beyond(size) {
			want(t, "Rot", b.Rot(d, 0, x, 1), api.ErrArg)
		}
	}
	wantNoSure(t, b, 1, 1, api.ErrDead)
	wantSure(t, b, 0, 2, at(0, 2))
	wantSure(t, b, 0, 1, spoilt(at(0, 1), 63, 0x10))
	wantOK(t, "Rot", b.Rot(0, 2, 5, 0x21))
	wantSure(t, b, 0, 2, spoilt(at(0, 2), 5, 0x21))
	wantOK(t, "Fail", b.Fail(1))
	wantOK(t, "Fail", b.Fail(2))
	wantDead(t, b, 2, true)
	wantNoSure(t, b, 2, 0, api.ErrDead)
	wantDark(t, b, true)
	wantOK(t, "Crash", b.Crash(keep(9)))
	wantBoth(t, b, 0, 2, spoilt(at(0, 2), 5, 0x21))
	wantBoth(t, b, 0, 1, some(54))
	wantNoRead(t, b, 2, 2, api.ErrDead)
}

// A bench may lose all its devices, in the dark too, and get each of them anew behind it.
func TestAllFailInTheDark(t *testing.T) {
	for _, sizes := range rows() {
		b := filled(t, sizes...)
		darken(t, b)
		for d := range sizes {
			wantOK(t, "Fail", b.Fail(d))
		}
		for d, many := range sizes {
			wantDead(t, b, d, true)
			wantNoRead(t, b, d, many-1, api.ErrPower)
			wantNoSure(t, b, d, many-1, api.ErrDead)
			want(t, "Insert in the dark", b.Insert(d), api.ErrPower)
		}
		wantOK(t, "Crash", b.Crash(keep(3)))
		wantDark(t, b, false)
		for d, many := range sizes {
			wantNoRead(t, b, d, many-1, api.ErrDead)
			wantOK(t, "Insert", b.Insert(d))
			wantBoth(t, b, d, many-1, api.Block{})
		}
	}
}

// P6.2 (Fail, Insert, Arm, Crash): from here on.

func TestFailOfEachDevice(t *testing.T) {
	for _, sizes := range rows() {
		b := filled(t, sizes...)
		for failed := range sizes {
			wantOK(t, "Fail", b.Fail(failed))
			for d, many := range sizes {
				wantDead(t, b, d, d <= failed)
				wantSectors(t, b, d, many)
			}
		}
		wantDevices(t, b, len(sizes))
	}
}

// A new device is as one that never was written; the others are as they were.
func TestInsertOfEachDevice(t *testing.T) {
	for _, sizes := range rows() {
		for d, many := range sizes {
			b, kept := filled(t, sizes...), filled(t, sizes...)
			for other := range sizes {
				wantOK(t, "Write", b.Write(other, 0, all(7)))
			}
			steps := b.Steps()
			wantOK(t, "Arm", b.Arm(9))
			want(t, "Insert in place of one that is alive", b.Insert(d), api.ErrState)
			wantRead(t, b, d, 0, all(7))
			wantSure(t, b, d, 0, at(d, 0))
			wantOK(t, "Fail", b.Fail(d))
			wantOK(t, "Insert", b.Insert(d))
			want(t, "Insert again", b.Insert(d), api.ErrState)
			wantSteps(t, b, steps)
			wantFuse(t, b, 9)
			wantDead(t, b, d, false)
			wantSectors(t, b, d, many)
			wantDevices(t, b, len(sizes))
			for n := range many {
				wantBoth(t, b, d, n, api.Block{})
			}
			wantNoRead(t, b, d, many, api.ErrArg)
			for other := range sizes {
				if other != d {
					wantDead(t, b, other, false)
					wantRead(t, b, other, 0, all(7))
					wantSure(t, b, other, 0, at(other, 0))
				}
			}
			wantOK(t, "Arm", b.Arm(0))
			wantOK(t, "Crash", b.Crash(nil))
			for n := range many {
				wantOK(t, "Write", b.Write(d, n, at(d, n)))
			}
			wantOK(t, "Flush", b.Flush(d))
			sameSectors(t, b, kept)
		}
	}
}

// Each of several dead ones gets a new device of its own.
func TestInsertOfSeveral(t *testing.T) {
	b := filled(t, 3, 3, 3, 3)
	for _, d := range []int{0, 2, 3} {
		wantOK(t, "Fail", b.Fail(d))
	}
	for _, d := range []int{3, 0} {
		wantOK(t, "Insert", b.Insert(d))
	}
	wantDead(t, b, 2, true)
	wantOK(t, "Write", b.Write(0, 1, all(1)))
	wantOK(t, "Rot", b.Rot(3, 2, 0, 5))
	wantRead(t, b, 0, 1, all(1))
	wantBoth(t, b, 0, 2, api.Block{})
	wantBoth(t, b, 3, 1, api.Block{})
	wantBoth(t, b, 3, 2, spoilt(api.Block{}, 0, 5))
	wantBoth(t, b, 1, 1, at(1, 1))
}

// A cut in the light: it is not dark, and no power is to be cut, whatever was armed.
func TestCrashInTheLight(t *testing.T) {
	for _, n := range []int{0, 1, 2, 40, top} {
		b := filled(t, 2, 2)
		wantOK(t, "Write", b.Write(1, 0, all(3)))
		steps := b.Steps()
		wantOK(t, "Arm", b.Arm(n))
		wantOK(t, "Crash", b.Crash([]int{5}))
		wantDark(t, b, false)
		wantFuse(t, b, 0)
		wantSteps(t, b, steps)
		wantBoth(t, b, 1, 0, start(5, all(3), at(1, 0)))
	}
}

// A cut in the dark: there is power again, and no power is to be cut.
func TestCrashInTheDark(t *testing.T) {
	for n := 1; n < 5; n++ {
		b := filled(t, 2, 2)
		wantOK(t, "Arm", b.Arm(n))
		steps := b.Steps()
		for i := range n {
			b.Write(1, 0, all(byte(i+1)))
		}
		wantDark(t, b, true)
		wantOK(t, "Crash", b.Crash(keep(n)))
		wantDark(t, b, false)
		wantFuse(t, b, 0)
		wantSteps(t, b, steps+n-1)
		last := at(1, 0)
		if n > 1 {
			last = all(byte(n - 1))
		}
		wantBoth(t, b, 1, 0, last)
		wantOK(t, "Write behind the cut", b.Write(1, 1, all(9)))
		wantSteps(t, b, steps+n)
		wantRead(t, b, 1, 1, all(9))
		wantOK(t, "Arm behind the cut", b.Arm(2))
		wantFuse(t, b, 2)
		wantOK(t, "Crash again", b.Crash(nil))
		wantBoth(t, b, 1, 1, at(1, 1))
	}
}

// Each device takes its numbers behind those of the ones ahead of it, in the
// order in which it was written, not in that in which the bench was.
func TestCrashTakesDeviceByDevice(t *testing.T) {
	for many := range 10 {
		b := filled(t, 3, 1, 3, 2)
		for i, to := range [][2]int{{3, 1}, {0, 2}, {2, 0}, {0, 0}, {3, 0}, {2, 2}, {0, 2}} {
			wantOK(t, "Write", b.Write(to[0], to[1], some(50+i)))
		}
		picks := []int{10, 20, 5, 30, 64, 40, -1, 64, 64}[:many]
		pick := append(slices.Clone(picks), make([]int, 9)...)
		wantOK(t, "Crash", b.Crash(picks))
		wantBoth(t, b, 0, 2, start(pick[2], some(56), start(pick[0], some(51), at(0, 2))))
		wantBoth(t, b, 0, 0, start(pick[1], some(53), at(0, 0)))
		wantBoth(t, b, 2, 0, start(pick[3], some(52), at(2, 0)))
		wantBoth(t, b, 2, 2, start(pick[4], some(55), at(2, 2)))
		wantBoth(t, b, 3, 1, start(pick[5], some(50), at(3, 1)))
		wantBoth(t, b, 3, 0, start(pick[6], some(54), at(3, 0)))
		for _, sector := range [][2]int{{0, 1}, {1, 0}, {2, 1}} {
			wantBoth(t, b, sector[0], sector[1], at(sector[0], sector[1]))
		}
	}
}

// Dead devices take none, wherever they stand; nor do those that were put anew in their place.
func TestCrashWithDeadDevices(t *testing.T) {
	for which := range 1 << 5 {
		for _, inserted := range []bool{false, true} {
			b := filled(t, 2, 2, 2, 2, 2)
			for d := range 5 {
				wantOK(t, "Write", b.Write(d, 1, some(50+d)))
				wantOK(t, "Write", b.Write(d, 0, some(60+d)))
			}
			for d := range 5 {
				if which>>d&1 == 1 {
					wantOK(t, "Fail", b.Fail(d))
				}
				if which>>d&1 == 1 && inserted {
					wantOK(t, "Insert", b.Insert(d))
				}
			}
			picks := []int{11, 22, 33, 44, 55, 64, 5, 6}
			wantOK(t, "Crash", b.Crash(picks))
			pick, taken := append(picks, 0, 0), 0
			for d := range 5 {
				switch {
				case which>>d&1 == 0:
					wantBoth(t, b, d, 1, start(pick[taken], some(50+d), at(d, 1)))
					wantBoth(t, b, d, 0, start(pick[taken+1], some(60+d), at(d, 0)))
					taken += 2
				case inserted:
					wantBoth(t, b, d, 0, api.Block{})
					wantBoth(t, b, d, 1, api.Block{})
				default:
					wantNoRead(t, b, d, 0, api.ErrDead)
				}
			}
		}
	}
}

// Behind a cut all is sure: another one changes nothing, whatever its numbers are.
func TestCrashAgain(t *testing.T) {
	b := busy(t)
	wantOK(t, "Crash", b.Crash([]int{9, 64, 0, 17}))
	kept := b.Copy()
	for _, l := range [][]int{nil, {}, {0}, keep(20), far()} {
		wantOK(t, "Crash again", b.Crash(l))
		sameBenches(t, b, kept)
	}
}

func TestCrashOfAllDead(t *testing.T) {
	b := filled(t, 2, 2)
	for d := range 2 {
		wantOK(t, "Write", b.Write(d, 0, all(1)))
		wantOK(t, "Fail", b.Fail(d))
	}
	wantOK(t, "Arm", b.Arm(1))
	for _, l := range [][]int{nil, {64}, keep(9)} {
		wantOK(t, "Crash", b.Crash(l))
		wantNoRead(t, b, 0, 0, api.ErrDead)
		wantNoRead(t, b, 1, 1, api.ErrDead)
	}
	wantOK(t, "Insert", b.Insert(1))
	wantFuse(t, b, 0)
}

// P6.3 (Devices, Sectors, Dead, Dark, Steps, Sure, Rot, Copy): from here on.

func TestRotOfEachByte(t *testing.T) {
	for x := range size {
		b := filled(t, 2, 1, 2)
		by := byte(x*7 + 1)
		wantOK(t, "Write", b.Write(2, 0, all(4)))
		wantOK(t, "Rot", b.Rot(2, 0, x, by))
		wantOK(t, "Rot", b.Rot(2, 1, x, by))
		wantRead(t, b, 2, 0, all(4))
		wantSure(t, b, 2, 0, spoilt(at(2, 0), x, by))
		wantBoth(t, b, 2, 1, spoilt(at(2, 1), x, by))
		for _, sector := range [][2]int{{0, 0}, {0, 1}, {1, 0}} {
			wantBoth(t, b, sector[0], sector[1], at(sector[0], sector[1]))
		}
	}
}

func TestRotOfNoByte(t *testing.T) {
	for _, sizes := range rows() {
		b, kept := filled(t, sizes...), filled(t, sizes...)
		for d, many := range sizes {
			for _, x := range beyond(size) {
				want(t, "Rot", b.Rot(d, 0, x, 1), api.ErrArg)
				want(t, "Rot", b.Rot(d, many-1, x, 1), api.ErrArg)
			}
		}
		sameBenches(t, b, kept)
		wantOK(t, "Fail", b.Fail(0))
		want(t, "Rot of no byte of a dead device", b.Rot(0, 0, size, 1), api.ErrArg)
		want(t, "Rot of a dead device", b.Rot(0, 0, size-1, 1), api.ErrDead)
	}
}

func TestCopyIsTheSame(t *testing.T) {
	benches := []*bench.Bench{busy(t), dark(t)}
	for _, sizes := range rows() {
		benches = append(benches, made(t, sizes...), filled(t, sizes...))
	}
	for _, b := range benches {
		c := b.Copy()
		if c == nil || c == b {
			t.Fatalf("Copy() = %p of %p", c, b)
		}
		sameBenches(t, c, b)
		sameBenches(t, c.Copy(), b)
	}
}

// deeds are what changes a busy bench, and most of them a dark one, in one way each.
func deeds() map[string]func(*bench.Bench) {
	return map[string]func(*bench.Bench){
		"Write":        func(b *bench.Bench) { b.Write(0, 0, all(0xcc)) },
		"Write again":  func(b *bench.Bench) { b.Write(0, 1, all(0xcc)) },
		"Flush":        func(b *bench.Bench) { b.Flush(0) },
		"Flush others": func(b *bench.Bench) { b.Flush(2) },
		"Fail":         func(b *bench.Bench) { b.Fail(2) },
		"Insert":       func(b *bench.Bench) { b.Insert(1) },
		"Arm":          func(b *bench.Bench) { b.Arm(1) },
		"Arm of none":  func(b *bench.Bench) { b.Arm(0) },
		"Rot":          func(b *bench.Bench) { b.Rot(2, 1, 0, 1) },
		"Crash":        func(b *bench.Bench) { b.Crash([]int{9, 9, 9, 64}) },
		"three steps": func(b *bench.Bench) {
			for n := range 3 {
				b.Write(0, n, all(0xcc))
			}
		},
		"Insert and write": func(b *bench.Bench) {
			b.Crash(nil)
			b.Insert(1)
			b.Write(1, 1, all(0xcc))
			b.Flush(1)
		},
	}
}

// A copy goes its own way, and so does what it was made of.
func TestCopyGoesItsOwnWay(t *testing.T) {
	for what, deed := range deeds() {
		for name, from := range map[string]func(*testing.T) *bench.Bench{"busy": busy, "dark": dark} {
			t.Run(what+" of a "+name+" one", func(t *testing.T) {
				done := from(t)
				deed(done)

				b := from(t)
				c := b.Copy()
				deed(c)
				sameBenches(t, b, from(t))
				sameBenches(t, c, done)

				b = from(t)
				c = b.Copy()
				deed(b)
				sameBenches(t, c, from(t))
				sameBenches(t, b, done)
			})
		}
	}
}

// Both sides write on behind a copy: neither's writes are the other's, nor its steps.
func TestBothSidesOfACopyWrite(t *testing.T) {
	for ahead := range 10 {
		b := made(t, 2, 2)
		for i := range ahead {
			wantOK(t, "Write", b.Write(1, 0, some(i)))
		}
		c, third := b.Copy(), b.Copy()
		picks := append(make([]int, ahead), 64, 64, 64)
		for i, x := range []*bench.Bench{b, c, third} {
			for range i + 1 {
				wantOK(t, "Write", x.Write(1, 1, all(byte(i+1))))
			}
		}
		for i, x := range []*bench.Bench{b, c, third} {
			wantSteps(t, x, ahead+i+1)
			wantRead(t, x, 1, 1, all(byte(i+1)))
			wantOK(t, "Crash", x.Crash(picks))
			wantBoth(t, x, 1, 1, all(byte(i+1)))
			wantBoth(t, x, 1, 0, api.Block{})
		}
	}
}

// P6.4 (what follows): from here on.

// turn gives numbers of all kinds from a seed.
type turn uint64

func (r *turn) below(n int) int {
	*r = *r*6364136223846793005 + 1442695040888963407
	return int(*r>>33) % n
}

// model is a bench as the words say it: a device of its own for each one of it,
// how many steps were done, and at which of all of them the power is cut.
type model struct {
	own   []*disk.Disk
	steps int
	cut   int // 0: at none
	dark  bool
}

// device answers a device of its own, and the error that is due ahead of disk's.
func (m *model) device(d int, inTheDark bool) (*disk.Disk, api.Errno) {
	switch {
	case m.dark && !inTheDark:
		return nil, api.ErrPower
	case d < 0 || d >= len(m.own):
		return nil, api.ErrArg
	}
	return m.own[d], api.OK
}

// step answers what a step answers: try says, with a copy, whether it is refused.
func (m *model) step(d int, try func(*disk.Disk) api.Errno) api.Errno {
	x, e := m.device(d, false)
	if e != api.OK {
		return e
	}
	if e := try(x.Copy()); e != api.OK {
		return e
	}
	if m.steps+1 == m.cut {
		m.dark, m.cut = true, 0
		return api.ErrPower
	}
	m.steps++
	return try(x)
}

func (m *model) insert(d int) api.Errno {
	x, e := m.device(d, false)
	switch {
	case e != api.OK:
		return e
	case !x.Dead():
		return api.ErrState
	}
	m.own[d], e = disk.New(x.Sectors())
	return e
}

func (m *model) arm(n int) api.Errno {
	switch {
	case m.dark:
		return api.ErrPower
	case n < 0:
		return api.ErrArg
	case n == 0:
		m.cut = 0
	default:
		m.cut = m.steps + n
	}
	return api.OK
}

// crash hands each device as many numbers as it has writes that are not sure.
func (m *model) crash(picks []int) {
	for _, x := range m.own {
		many := min(x.Loose(), len(picks))
		x.Crash(picks[:many])
		picks = picks[many:]
	}
	m.dark, m.cut = false, 0
}

// act does one thing to a bench and to its model, in which each device is given the same.
func (m *model) act(t *testing.T, r *turn, b *bench.Bench) {
	t.Helper()
	d := r.below(len(m.own)+2) - 1
	n := r.below(9) - 1
	switch r.below(14) {
	case 0, 1:
		want(t, "Flush", b.Flush(d), m.step(d, (*disk.Disk).Flush))
	case 2:
		var l []int
		for range r.below(14) {
			l = append(l, r.below(size+6)-3)
		}
		wantOK(t, "Crash", b.Crash(l))
		m.crash(l)
	case 3, 4:
		arm := r.below(12) - 1
		want(t, "Arm", b.Arm(arm), m.arm(arm))
	case 5:
		x, e := m.device(d, true)
		if e == api.OK {
			e = x.Fail()
		}
		want(t, "Fail", b.Fail(d), e)
	case 6, 7:
		want(t, "Insert", b.Insert(d), m.insert(d))
	case 8:
		at, by := r.below(size+2)-1, byte(r.below(256))
		x, e := m.device(d, true)
		if e == api.OK {
			e = x.Rot(n, at, by)
		}
		want(t, "Rot", b.Rot(d, n, at, by), e)
	default:
		x := some(r.below(1 << 20))
		want(t, "Write", b.Write(d, n, x), m.step(d, func(y *disk.Disk) api.Errno { return y.Write(n, x) }))
	}
}

// check wants that a bench answers as its model.
func (m *model) check(t *testing.T, b *bench.Bench) {
	t.Helper()
	wantDark(t, b, m.dark)
	wantSteps(t, b, m.steps)
	for d := -1; d <= len(m.own); d++ {
		lit, noRead := m.device(d, false)
		own, noSure := m.device(d, true)
		wantDead(t, b, d, own.Dead())
		wantSectors(t, b, d, own.Sectors())
		for n := -1; n < 8; n++ {
			x, e := lit.Read(n)
			if noRead != api.OK {
				x, e = api.Block{}, noRead
			}
			if got, f := b.Read(d, n); got != x || f != e {
				t.Errorf("Read(%d, %d) = %x, %v; want %x, %v", d, n, got, f, x, e)
			}
			x, e = own.Sure(n)
			if noSure != api.OK {
				x, e = api.Block{}, noSure
			}
			if got, f := b.Sure(d, n); got != x || f != e {
				t.Errorf("Sure(%d, %d) = %x, %v; want %x, %v", d, n, got, f, x, e)
			}
		}
	}
}

// Some thousands of things of all kinds: each device is as one of its own that
// was given the same, but for what was refused in the dark.
func TestEachDeviceIsAsOneOfItsOwn(t *testing.T) {
	for seed, sizes := range [][]int{{1}, {7}, {2, 2}, {1, 3, 5}, {6, 7, 6, 2}, slices.Repeat([]int{3}, maxDevices)} {
		r, b, m := turn(seed), made(t, sizes...), &model{}
		for _, sectors := range sizes {
			x, _ := disk.New(sectors)
			m.own = append(m.own, x)
		}
		for range 2500 {
			m.act(t, &r, b)
			m.check(t, b)
			if t.Failed() {
				t.FailNow()
			}
			if r.below(50) == 0 {
				b = b.Copy()
			}
		}
	}
}

// Arm of n, and n steps or more, all of which are asked for: n - 1 were done.
func TestStepsBehindAnArm(t *testing.T) {
	for n := 1; n <= 30; n++ {
		for asked := range 40 {
			b := filled(t, 2, 3)
			ahead := b.Steps()
			wantOK(t, "Arm", b.Arm(n))
			for i := range asked {
				b.Write(i%2, 1, some(i))
			}
			wantDark(t, b, asked >= n)
			wantSteps(t, b, ahead+min(asked, n-1))
		}
	}
}

// Rules 3 to 5 and 8 (what is handed in, and what is answered): from here on.

// What is handed in stays as it is, the room behind its end too, and is not kept.
func TestArgumentsStay(t *testing.T) {
	room := append([]int{1, 2, 3, 64, 5, 0, -1, 70}, far()...)
	kept := slices.Clone(room)
	for end := range len(room) + 1 {
		b := filled(t, 2, 2, 2)
		for i := range 30 {
			wantOK(t, "Write", b.Write(i%3, 0, some(i)))
		}
		wantOK(t, "Crash", b.Crash(room[:end]))
	}
	if !slices.Equal(room, kept) {
		t.Errorf("the numbers that were handed in are %v; they were %v", room, kept)
	}
	sizes := []int{3, 2, 1, 77, 78}
	b, e := bench.New(sizes[:3])
	want(t, "New", e, api.OK)
	if !slices.Equal(sizes, []int{3, 2, 1, 77, 78}) {
		t.Errorf("the sizes that were handed in are %v", sizes)
	}
	sizes[0], sizes[3] = 500, 400
	wantDevices(t, b, 3)
	wantSectors(t, b, 0, 3)
	wantOK(t, "Fail", b.Fail(0))
	wantOK(t, "Insert", b.Insert(0))
	wantSectors(t, b, 0, 3)
}

func TestNothingIsShared(t *testing.T) {
	b, x := made(t, 1, 1), all(7)
	wantOK(t, "Write", b.Write(1, 0, x))
	x[0] = 8
	wantRead(t, b, 1, 0, all(7))
	r, _ := b.Read(1, 0)
	r[1] = 9
	wantOK(t, "Flush", b.Flush(1))
	s, _ := b.Sure(1, 0)
	s[2] = 10
	wantBoth(t, b, 1, 0, all(7))
	l := []int{5}
	wantOK(t, "Write", b.Write(1, 0, all(1)))
	wantOK(t, "Crash", b.Crash(l))
	l[0] = 64
	wantBoth(t, b, 1, 0, start(5, all(1), all(7)))
}

// Two benches have nothing to do with each other, nor have two devices of one.
func TestBenchesAreApart(t *testing.T) {
	sizes := []int{2, 2}
	a, b := filled(t, sizes...), filled(t, sizes...)
	wantOK(t, "Write", a.Write(0, 0, all(1)))
	wantOK(t, "Rot", a.Rot(1, 1, 1, 1))
	sameBenches(t, b, filled(t, sizes...))
	wantOK(t, "Fail", a.Fail(0))
	darken(t, a)
	sameBenches(t, b, filled(t, sizes...))
}

// What only asks changes nothing, and answers the same again.
func TestAskingChangesNothing(t *testing.T) {
	for _, from := range []func(*testing.T) *bench.Bench{busy, dark} {
		b := from(t)
		for range 3 {
			for d := -1; d <= 3; d++ {
				for n := -1; n <= 4; n++ {
					b.Read(d, n)
					b.Sure(d, n)
				}
				b.Sectors(d)
				b.Dead(d)
			}
			b.Devices()
			b.Dark()
			b.Steps()
			b.Copy()
			sameBenches(t, b, from(t))
		}
	}
}

// An error has changed nothing: not what is written, nor what is armed.
func TestErrorsChangeNothing(t *testing.T) {
	b := busy(t)
	for _, d := range beyond(3) {
		wantNoRead(t, b, d, 0, api.ErrArg)
		wantNoSure(t, b, d, 0, api.ErrArg)
		want(t, "Flush", b.Flush(d), api.ErrArg)
		want(t, "Fail", b.Fail(d), api.ErrArg)
		want(t, "Insert", b.Insert(d), api.ErrArg)
	}
	wantNoRead(t, b, 0, 4, api.ErrArg)
	wantNoRead(t, b, 1, 0, api.ErrDead)
	want(t, "Flush", b.Flush(1), api.ErrDead)
	want(t, "Insert", b.Insert(0), api.ErrState)
	want(t, "Rot", b.Rot(0, 1, size, 1), api.ErrArg)
	want(t, "Arm", b.Arm(-1), api.ErrArg)
	sameBenches(t, b, busy(t))
}
