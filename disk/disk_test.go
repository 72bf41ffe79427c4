package disk_test

import (
	"slices"
	"testing"

	"ashlar/api"
	"ashlar/disk"
)

const (
	top    = int(^uint(0) >> 1)
	bottom = -top - 1
)

// The document's numbers, written out, so that a limit that is asked wrongly is told.
const (
	size       = 64
	maxSectors = 512
)

// far are numbers far beyond what anything counts, on both sides.
func far() []int {
	return []int{bottom, bottom + 1, bottom / 2, -1 << 32, -1 << 31, -1000, 1000, 1 << 31, 1 << 32, top / 2, top - 1, top}
}

// beyond are the numbers next to those from 0 to below many, on both sides, and far ones.
func beyond(many int) []int {
	return append(far(), -many-1, -many, -2, -1, many, many+1, many+2, 2*many)
}

// edges are the sectors at both ends of a device, and those between.
func edges(sectors int) []int {
	l := []int{0, 1, sectors / 2, sectors - 2, sectors - 1}
	l = slices.DeleteFunc(l, func(n int) bool { return n < 0 || n >= sectors })
	slices.Sort(l)
	return slices.Compact(l)
}

// picks are a cut's numbers: of no byte, of some, of all, and next to these.
func picks() []int {
	return append(far(), -size, -2, -1, 0, 1, 2, 3, 31, 32, size-2, size-1, size, size+1, 2*size)
}

// all answers a block of one byte, again and again.
func all(c byte) api.Block {
	var b api.Block
	for i := range b {
		b[i] = c
	}
	return b
}

// some answers a block of all kinds of bytes, another one for each seed.
func some(seed int) api.Block {
	var b api.Block
	n := uint32(seed)*2654435761 + 12345
	for i := range b {
		n = n*1664525 + 1013904223
		b[i] = byte(n >> 24)
	}
	return b
}

// start answers a block that begins with so many bytes of one, and goes on as another.
func start(many int, b, rest api.Block) api.Block {
	for i := range rest {
		if i < many {
			rest[i] = b[i]
		}
	}
	return rest
}

// spoilt answers a block of which a byte is another one.
func spoilt(b api.Block, at int, by byte) api.Block {
	b[at] = (b[at] | by) - (b[at] & by)
	return b
}

// made answers a device of so many sectors.
func made(t *testing.T, sectors int) *disk.Disk {
	t.Helper()
	d, e := disk.New(sectors)
	if d == nil || e != api.OK {
		t.Fatalf("New(%d) = %v, %v", sectors, d, e)
	}
	return d
}

// filled answers a device of so many sectors, each of which is surely some(its number).
func filled(t *testing.T, sectors int) *disk.Disk {
	t.Helper()
	d := made(t, sectors)
	for n := range sectors {
		wantOK(t, "Write", d.Write(n, some(n)))
	}
	wantOK(t, "Flush", d.Flush())
	return d
}

// dead answers a device that failed with a write that was not sure.
func dead(t *testing.T, sectors int) *disk.Disk {
	t.Helper()
	d := filled(t, sectors)
	wantOK(t, "Write", d.Write(0, all(1)))
	wantOK(t, "Fail", d.Fail())
	return d
}

func want(t *testing.T, what string, got, want api.Errno) {
	t.Helper()
	if got != want {
		t.Errorf("%s: %v; want %v", what, got, want)
	}
}

func wantOK(t *testing.T, what string, e api.Errno) {
	t.Helper()
	want(t, what, e, api.OK)
}

func wantRead(t *testing.T, d *disk.Disk, n int, b api.Block) {
	t.Helper()
	if got, e := d.Read(n); got != b || e != api.OK {
		t.Errorf("Read(%d) = %x, %v; want %x", n, got, e, b)
	}
}

func wantSure(t *testing.T, d *disk.Disk, n int, b api.Block) {
	t.Helper()
	if got, e := d.Sure(n); got != b || e != api.OK {
		t.Errorf("Sure(%d) = %x, %v; want %x", n, got, e, b)
	}
}

// wantBoth wants that a sector is surely what is read there.
func wantBoth(t *testing.T, d *disk.Disk, n int, b api.Block) {
	t.Helper()
	wantRead(t, d, n, b)
	wantSure(t, d, n, b)
}

// wantNot wants that a sector is refused by all that reads, writes or spoils it.
func wantNot(t *testing.T, d *disk.Disk, n int, e api.Errno) {
	t.Helper()
	if got, f := d.Read(n); got != (api.Block{}) || f != e {
		t.Errorf("Read(%d) = %x, %v; want 0, %v", n, got, f, e)
	}
	if got, f := d.Sure(n); got != (api.Block{}) || f != e {
		t.Errorf("Sure(%d) = %x, %v; want 0, %v", n, got, f, e)
	}
	want(t, "Write", d.Write(n, all(0xee)), e)
	want(t, "Rot", d.Rot(n, 0, 0xee), e)
}

func wantLoose(t *testing.T, d *disk.Disk, many int) {
	t.Helper()
	if got := d.Loose(); got != many {
		t.Errorf("Loose() = %d; want %d", got, many)
	}
}

func wantDead(t *testing.T, d *disk.Disk, dead bool) {
	t.Helper()
	if got := d.Dead(); got != dead {
		t.Errorf("Dead() = %v", got)
	}
}

func wantSectors(t *testing.T, d *disk.Disk, many int) {
	t.Helper()
	if got := d.Sectors(); got != many {
		t.Errorf("Sectors() = %d; want %d", got, many)
	}
}

func wantCrash(t *testing.T, d *disk.Disk, picks []int, many int, e api.Errno) {
	t.Helper()
	if got, f := d.Crash(picks); got != many || f != e {
		t.Errorf("Crash(%v) = %d, %v; want %d, %v", picks, got, f, many, e)
	}
}

// sameDevices wants that nothing tells two devices from each other.
func sameDevices(t *testing.T, a, b *disk.Disk) {
	t.Helper()
	wantSectors(t, a, b.Sectors())
	wantDead(t, a, b.Dead())
	wantLoose(t, a, b.Loose())
	for n := range b.Sectors() {
		r, e := a.Read(n)
		if x, f := b.Read(n); r != x || e != f {
			t.Errorf("Read(%d) = %x, %v; want %x, %v", n, r, e, x, f)
		}
		r, e = a.Sure(n)
		if x, f := b.Sure(n); r != x || e != f {
			t.Errorf("Sure(%d) = %x, %v; want %x, %v", n, r, e, x, f)
		}
	}
}

func TestExamples(t *testing.T) {
	d, e := disk.New(0)
	if d != nil || e != api.ErrArg {
		t.Errorf("New(0) = %v, %v", d, e)
	}
	d = made(t, 2)
	wantOK(t, "Write", d.Write(0, all(0x11)))
	wantLoose(t, d, 1)
	wantCrash(t, d, []int{3}, 1, api.OK)
	b, e := d.Read(0)
	if [4]byte(b[:4]) != [4]byte{0x11, 0x11, 0x11, 0} || e != api.OK {
		t.Errorf("Read(0) = %x, %v", b, e)
	}
	want(t, "Write", d.Write(2, all(0x11)), api.ErrArg)
	wantOK(t, "Fail", d.Fail())
	_, e = d.Read(0)
	want(t, "Read", e, api.ErrDead)
}

// Rule 5 (objects that no call made): a nil pointer and a zero object.

func TestNilAndZero(t *testing.T) {
	for _, d := range []*disk.Disk{nil, {}, new(disk.Disk)} {
		for _, n := range append(beyond(maxSectors), 0, 1, maxSectors-1) {
			wantNot(t, d, n, api.ErrNil)
			want(t, "Rot", d.Rot(0, n, 1), api.ErrNil)
		}
		want(t, "Flush", d.Flush(), api.ErrNil)
		for _, l := range [][]int{nil, {}, {0}, {size}, picks()} {
			wantCrash(t, d, l, 0, api.ErrNil)
		}
		want(t, "Fail", d.Fail(), api.ErrNil)
		want(t, "Flush behind Fail", d.Flush(), api.ErrNil)
		wantSectors(t, d, 0)
		wantLoose(t, d, 0)
		wantDead(t, d, false)
		if c := d.Copy(); c != nil {
			t.Errorf("Copy() = %v", c)
		}
	}
}

// P5.1 (New, Read, Write, Flush, Sure): from here on.

func TestNewOfEachSize(t *testing.T) {
	for sectors := 1; sectors <= maxSectors; sectors++ {
		d := made(t, sectors)
		wantSectors(t, d, sectors)
		wantLoose(t, d, 0)
		wantDead(t, d, false)
		for n := range sectors {
			wantBoth(t, d, n, api.Block{})
		}
	}
}

func TestNewOfNoSize(t *testing.T) {
	for _, sectors := range append(far(), -maxSectors, -2, -1, 0, maxSectors+1, maxSectors+2, 2*maxSectors) {
		if d, e := disk.New(sectors); d != nil || e != api.ErrArg {
			t.Errorf("New(%d) = %v, %v", sectors, d, e)
		}
	}
}

// What is written is read at once, and sure behind a Flush alone.
func TestWriteOfEachSector(t *testing.T) {
	for _, sectors := range []int{1, 2, 3, 100, maxSectors - 1, maxSectors} {
		d := made(t, sectors)
		for n := range sectors {
			wantOK(t, "Write", d.Write(n, some(n)))
			wantRead(t, d, n, some(n))
			wantSure(t, d, n, api.Block{})
			wantLoose(t, d, n+1)
		}
		for n := range sectors {
			wantRead(t, d, n, some(n))
			wantSure(t, d, n, api.Block{})
		}
		wantOK(t, "Flush", d.Flush())
		wantLoose(t, d, 0)
		for n := range sectors {
			wantBoth(t, d, n, some(n))
		}
	}
}

// One sector's write is none of the others'.
func TestWriteOfOneSector(t *testing.T) {
	for _, sectors := range []int{1, 2, 3, 100, maxSectors} {
		for _, at := range edges(sectors) {
			d := filled(t, sectors)
			wantOK(t, "Write", d.Write(at, all(0xa5)))
			for n := range sectors {
				if n == at {
					wantRead(t, d, n, all(0xa5))
					wantSure(t, d, n, some(n))
				} else {
					wantBoth(t, d, n, some(n))
				}
			}
		}
	}
}

func TestNoSector(t *testing.T) {
	for _, sectors := range []int{1, 2, 3, 100, maxSectors - 1, maxSectors} {
		d, kept := filled(t, sectors), filled(t, sectors)
		for _, n := range beyond(sectors) {
			if n < 0 || n >= sectors {
				wantNot(t, d, n, api.ErrArg)
			}
		}
		sameDevices(t, d, kept)
	}
}

// The newest of several writes is read; the one that was sure stays so.
func TestWriteAgain(t *testing.T) {
	d := filled(t, 3)
	for i, n := range []int{1, 1, 0, 1, 2, 0, 1} {
		wantOK(t, "Write", d.Write(n, some(100+i)))
		wantRead(t, d, n, some(100+i))
	}
	wantLoose(t, d, 7)
	for n, i := range []int{5, 6, 4} {
		wantRead(t, d, n, some(100+i))
		wantSure(t, d, n, some(n))
	}
	wantOK(t, "Flush", d.Flush())
	for n, i := range []int{5, 6, 4} {
		wantBoth(t, d, n, some(100+i))
	}
}

// A write of what is there already counts as any other.
func TestWriteOfTheSame(t *testing.T) {
	d := filled(t, 2)
	wantOK(t, "Write", d.Write(1, some(1)))
	wantOK(t, "Write", d.Write(1, some(1)))
	wantLoose(t, d, 2)
	wantCrash(t, d, []int{7, 8, 9}, 2, api.OK)
	wantBoth(t, d, 1, some(1))
}

func TestFlushAgain(t *testing.T) {
	d := made(t, 2)
	wantOK(t, "Flush of a new device", d.Flush())
	wantOK(t, "Write", d.Write(1, some(5)))
	for range 3 {
		wantOK(t, "Flush", d.Flush())
		wantLoose(t, d, 0)
		wantBoth(t, d, 0, api.Block{})
		wantBoth(t, d, 1, some(5))
	}
	wantOK(t, "Write behind a Flush", d.Write(1, some(6)))
	wantLoose(t, d, 1)
	wantRead(t, d, 1, some(6))
	wantSure(t, d, 1, some(5))
}

// P5.2 (Fail, Dead, Loose, Rot): from here on.

func TestFail(t *testing.T) {
	for _, sectors := range []int{1, 2, maxSectors} {
		d := filled(t, sectors)
		wantOK(t, "Write", d.Write(0, all(1)))
		wantOK(t, "Write", d.Write(sectors-1, all(2)))
		wantDead(t, d, false)
		wantLoose(t, d, 2)
		wantOK(t, "Fail", d.Fail())
		wantDead(t, d, true)
		wantLoose(t, d, 0)
	}
}

// It fails for good: whatever is asked of it, it is dead still.
func TestDeadDevice(t *testing.T) {
	for _, sectors := range []int{1, 2, 100, maxSectors} {
		d := dead(t, sectors)
		for range 2 {
			for n := range sectors {
				wantNot(t, d, n, api.ErrDead)
				want(t, "Rot", d.Rot(n, size-1, 1), api.ErrDead)
			}
			want(t, "Flush", d.Flush(), api.ErrDead)
			for _, l := range [][]int{nil, {}, {0}, {1}, {size}, picks()} {
				wantCrash(t, d, l, 0, api.OK)
			}
			wantSectors(t, d, sectors)
			wantLoose(t, d, 0)
			wantDead(t, d, true)
			wantOK(t, "Fail again", d.Fail())
			d = d.Copy()
		}
	}
}

// A sector, or a byte, that is not there is told ahead of the dead device.
func TestNoSectorOfADeadDevice(t *testing.T) {
	for _, sectors := range []int{1, 2, 100, maxSectors} {
		d := dead(t, sectors)
		for _, n := range beyond(sectors) {
			if n >= 0 && n < sectors {
				continue
			}
			wantNot(t, d, n, api.ErrArg)
			want(t, "Rot", d.Rot(n, size, 1), api.ErrArg)
		}
		for _, at := range beyond(size) {
			want(t, "Rot", d.Rot(0, at, 1), api.ErrArg)
		}
		wantDead(t, d, true)
	}
}

func TestFailOfANewDevice(t *testing.T) {
	d := made(t, 4)
	wantOK(t, "Fail", d.Fail())
	wantNot(t, d, 0, api.ErrDead)
	wantSectors(t, d, 4)
}

// Each byte of a sector is spoilt alone.
func TestRotOfEachByte(t *testing.T) {
	for _, sectors := range []int{1, 2, 3} {
		for n := range sectors {
			for at := range size {
				for _, by := range []byte{0, 1, 0x80, 0xff} {
					d := filled(t, sectors)
					wantOK(t, "Rot", d.Rot(n, at, by))
					wantLoose(t, d, 0)
					for m := range sectors {
						b := some(m)
						if m == n {
							b = spoilt(b, at, by)
						}
						wantBoth(t, d, m, b)
					}
				}
			}
		}
	}
}

func TestRotAtTheEdges(t *testing.T) {
	d := made(t, maxSectors)
	wantOK(t, "Rot", d.Rot(0, 0, 0x81))
	wantOK(t, "Rot", d.Rot(maxSectors-1, size-1, 0x18))
	wantBoth(t, d, 0, spoilt(api.Block{}, 0, 0x81))
	wantBoth(t, d, maxSectors-1, spoilt(api.Block{}, 63, 0x18))
	wantBoth(t, d, 1, api.Block{})
	wantBoth(t, d, maxSectors-2, api.Block{})
}

// Twice the same is as if it had not been; two are laid on each other.
func TestRotAgain(t *testing.T) {
	d := filled(t, 2)
	wantOK(t, "Rot", d.Rot(1, 5, 0x3c))
	wantOK(t, "Rot", d.Rot(1, 5, 0x3c))
	wantBoth(t, d, 1, some(1))
	wantOK(t, "Rot", d.Rot(1, 5, 0x0f))
	wantOK(t, "Rot", d.Rot(1, 5, 0x3c))
	wantBoth(t, d, 1, spoilt(some(1), 5, 0x33))
}

func TestRotOfNoByte(t *testing.T) {
	for _, sectors := range []int{1, 3, maxSectors} {
		d, kept := filled(t, sectors), filled(t, sectors)
		for _, n := range edges(sectors) {
			for _, at := range beyond(size) {
				want(t, "Rot", d.Rot(n, at, 0xff), api.ErrArg)
			}
		}
		for _, n := range beyond(sectors) {
			if n >= 0 && n < sectors {
				continue
			}
			for _, at := range append(beyond(size), 0, 1, size-1) {
				want(t, "Rot", d.Rot(n, at, 0xff), api.ErrArg)
			}
		}
		sameDevices(t, d, kept)
	}
}

// What is sure is spoilt, not the writes behind it: they are read as they are.
func TestRotUnderLooseWrites(t *testing.T) {
	for _, at := range []int{0, 1, 31, 62, 63} {
		d := filled(t, 2)
		wantOK(t, "Write", d.Write(1, some(70)))
		wantOK(t, "Write", d.Write(1, some(71)))
		wantOK(t, "Rot", d.Rot(1, at, 0x42))
		wantLoose(t, d, 2)
		wantRead(t, d, 1, some(71))
		wantSure(t, d, 1, spoilt(some(1), at, 0x42))
		wantBoth(t, d, 0, some(0))
		kept, torn, lost := d.Copy(), d.Copy(), d.Copy()
		wantOK(t, "Flush", d.Flush())
		wantBoth(t, d, 1, some(71))
		wantCrash(t, kept, []int{size, size}, 2, api.OK)
		wantBoth(t, kept, 1, some(71))
		wantCrash(t, torn, []int{0, 32}, 2, api.OK)
		wantBoth(t, torn, 1, start(32, some(71), spoilt(some(1), at, 0x42)))
		wantCrash(t, lost, nil, 0, api.OK)
		wantBoth(t, lost, 1, spoilt(some(1), at, 0x42))
	}
}

// A sector with no loose write of its own is spoilt as it is read, whatever is loose elsewhere.
func TestRotBesideLooseWrites(t *testing.T) {
	d := filled(t, 3)
	wantOK(t, "Write", d.Write(0, some(70)))
	wantOK(t, "Write", d.Write(2, some(71)))
	wantOK(t, "Rot", d.Rot(1, 9, 0x42))
	wantBoth(t, d, 1, spoilt(some(1), 9, 0x42))
	wantRead(t, d, 0, some(70))
	wantRead(t, d, 2, some(71))
}

// P5.3 (Crash, Copy): from here on.

// One write that takes each kind of number.
func TestCrashOfOneWrite(t *testing.T) {
	for _, pick := range append(picks(), beyond(size)...) {
		for _, n := range []int{0, 1, 2} {
			d := filled(t, 3)
			wantOK(t, "Write", d.Write(n, some(50)))
			wantCrash(t, d, []int{pick}, 1, api.OK)
			wantLoose(t, d, 0)
			for m := range 3 {
				b := some(m)
				if m == n {
					b = start(pick, some(50), b)
				}
				wantBoth(t, d, m, b)
			}
		}
	}
}

// A write is torn at each byte.
func TestCrashAtEachByte(t *testing.T) {
	for pick := range size + 1 {
		d := made(t, 1)
		wantOK(t, "Write", d.Write(0, all(0xee)))
		wantCrash(t, d, []int{pick}, 1, api.OK)
		b, _ := d.Read(0)
		for i, c := range b {
			if (i < pick) != (c == 0xee) || (i >= pick) != (c == 0) {
				t.Errorf("cut at %d: byte %d is %x", pick, i, c)
			}
		}
	}
}

// Fewer numbers than writes, as many, more, and none: what takes none is lost.
func TestCrashOfHowManyNumbers(t *testing.T) {
	for writes := range 6 {
		for many := range 9 {
			d := filled(t, 6)
			for n := range writes {
				wantOK(t, "Write", d.Write(n, some(50+n)))
			}
			var l []int
			for range many {
				l = append(l, size)
			}
			wantCrash(t, d, l, min(writes, many), api.OK)
			wantLoose(t, d, 0)
			for n := range 6 {
				b := some(n)
				if n < writes && n < many {
					b = some(50 + n)
				}
				wantBoth(t, d, n, b)
			}
		}
	}
}

func TestCrashOfNoNumbers(t *testing.T) {
	for _, l := range [][]int{nil, {}, picks()[:0]} {
		d, kept := filled(t, 4), filled(t, 4)
		for i := range 9 {
			wantOK(t, "Write", d.Write(i%4, some(50+i)))
		}
		wantCrash(t, d, l, 0, api.OK)
		sameDevices(t, d, kept)
	}
}

func TestCrashOfNoWrites(t *testing.T) {
	for _, l := range [][]int{nil, {}, {0}, {size}, picks()} {
		d, kept := filled(t, 3), filled(t, 3)
		wantCrash(t, d, l, 0, api.OK)
		sameDevices(t, d, kept)
		d = made(t, 1)
		wantCrash(t, d, l, 0, api.OK)
		wantBoth(t, d, 0, api.Block{})
	}
}

// Writes take numbers in the order in which they were written, not in that of their sectors.
func TestCrashTakesInOrder(t *testing.T) {
	d := filled(t, 4)
	for _, n := range []int{3, 0, 2, 1} {
		wantOK(t, "Write", d.Write(n, some(50+n)))
	}
	wantCrash(t, d, []int{10, 20, 30}, 3, api.OK)
	wantBoth(t, d, 3, start(10, some(53), some(3)))
	wantBoth(t, d, 0, start(20, some(50), some(0)))
	wantBoth(t, d, 2, start(30, some(52), some(2)))
	wantBoth(t, d, 1, some(1))
}

// Three writes of one sector: kept, torn and lost, in each order.
func TestCrashOfOneSectorByHand(t *testing.T) {
	a, b, c, old := all(1), all(2), all(3), all(9)
	for i, x := range []struct {
		picks []int
		want  api.Block
	}{
		{[]int{64, 10, 0}, start(10, b, a)},
		{[]int{64, 0, 10}, start(10, c, a)},
		{[]int{10, 64, 0}, b},
		{[]int{0, 64, 10}, start(10, c, b)},
		{[]int{10, 0, 64}, c},
		{[]int{0, 10, 64}, c},
		{[]int{10, 20, 30}, start(30, c, old)},
		{[]int{30, 20, 10}, start(10, c, start(20, b, start(30, a, old)))},
		{[]int{20, 10, 30}, start(30, c, old)},
		{[]int{20, 30, 10}, start(10, c, start(30, b, old))},
		{[]int{64, 64, 0}, b},
		{[]int{64, 63, 1}, start(1, c, start(63, b, a))},
		{[]int{1, 0, -1}, start(1, a, old)},
		{[]int{64}, a},
		{[]int{-5, 65}, b},
	} {
		d := made(t, 2)
		wantOK(t, "Write", d.Write(1, old))
		wantOK(t, "Flush", d.Flush())
		for _, w := range []api.Block{a, b, c} {
			wantOK(t, "Write", d.Write(1, w))
		}
		wantCrash(t, d, x.picks, len(x.picks), api.OK)
		if got, e := d.Read(1); got != x.want || e != api.OK {
			t.Errorf("%d: Read behind Crash(%v) = %x, %v; want %x", i, x.picks, got, e, x.want)
		}
		wantBoth(t, d, 1, x.want)
		wantBoth(t, d, 0, api.Block{})
	}
}

// All numbers of the edges for three writes of one sector, with one of another between.
func TestCrashOfOneSector(t *testing.T) {
	old := some(1)
	for _, i := range picks() {
		for _, j := range picks() {
			for _, k := range picks() {
				d := filled(t, 2)
				for _, w := range []struct{ n, seed int }{{1, 50}, {1, 51}, {0, 52}, {1, 53}} {
					wantOK(t, "Write", d.Write(w.n, some(w.seed)))
				}
				wantCrash(t, d, []int{i, j, 7, k}, 4, api.OK)
				wantBoth(t, d, 1, start(k, some(53), start(j, some(51), start(i, some(50), old))))
				wantBoth(t, d, 0, start(7, some(52), some(0)))
			}
		}
	}
}

// Behind a cut all is sure: another one changes nothing, and takes no number.
func TestAllIsSureBehindACrash(t *testing.T) {
	d := filled(t, 3)
	for i := range 6 {
		wantOK(t, "Write", d.Write(i%3, some(50+i)))
	}
	wantCrash(t, d, []int{64, 5, 0, 6, 64}, 5, api.OK)
	behind := []api.Block{start(6, some(53), some(50)), some(54), some(2)}
	for _, l := range [][]int{nil, {64, 64, 64, 64, 64, 64}, {1, 2, 3}} {
		wantLoose(t, d, 0)
		for n, b := range behind {
			wantBoth(t, d, n, b)
		}
		wantCrash(t, d, l, 0, api.OK)
	}
	wantOK(t, "Write behind a cut", d.Write(0, some(60)))
	wantLoose(t, d, 1)
	wantCrash(t, d, []int{8, 64}, 1, api.OK)
	wantBoth(t, d, 0, start(8, some(60), behind[0]))
	wantBoth(t, d, 1, behind[1])
}

// busy answers a device with sure sectors, loose writes and a spoilt byte.
func busy(t *testing.T) *disk.Disk {
	t.Helper()
	d := filled(t, 4)
	for i, n := range []int{1, 3, 1} {
		wantOK(t, "Write", d.Write(n, some(50+i)))
	}
	wantOK(t, "Rot", d.Rot(1, 63, 0x10))
	return d
}

func TestCopyIsTheSame(t *testing.T) {
	for _, d := range []*disk.Disk{made(t, 1), made(t, maxSectors), filled(t, 3), filled(t, maxSectors), busy(t), dead(t, 2)} {
		c := d.Copy()
		if c == nil || c == d {
			t.Fatalf("Copy() = %p of %p", c, d)
		}
		sameDevices(t, c, d)
		sameDevices(t, c.Copy(), d)
		l := []int{10, 64, 20}
		many, e := d.Crash(l)
		wantCrash(t, c, l, many, e)
		sameDevices(t, c, d)
	}
}

// deeds are what changes a busy device, in one way each.
func deeds() map[string]func(*disk.Disk) api.Errno {
	return map[string]func(*disk.Disk) api.Errno{
		"Write":       func(d *disk.Disk) api.Errno { return d.Write(0, all(0xcc)) },
		"Write again": func(d *disk.Disk) api.Errno { return d.Write(1, all(0xcc)) },
		"Flush":       func(d *disk.Disk) api.Errno { return d.Flush() },
		"Fail":        func(d *disk.Disk) api.Errno { return d.Fail() },
		"Rot":         func(d *disk.Disk) api.Errno { return d.Rot(1, 0, 1) },
		"Crash":       func(d *disk.Disk) api.Errno { _, e := d.Crash([]int{9, 9, 9}); return e },
		"Write, Flush, Rot": func(d *disk.Disk) api.Errno {
			return max(d.Write(3, all(0xcc)), d.Flush(), d.Rot(3, 1, 1))
		},
	}
}

// A copy goes its own way, and so does what it was made of.
func TestCopyGoesItsOwnWay(t *testing.T) {
	for what, deed := range deeds() {
		d := busy(t)
		c := d.Copy()
		wantOK(t, what+" of the copy", deed(c))
		sameDevices(t, d, busy(t))
		done := busy(t)
		wantOK(t, what, deed(done))
		sameDevices(t, c, done)

		d = busy(t)
		c = d.Copy()
		wantOK(t, what, deed(d))
		sameDevices(t, c, busy(t))
		sameDevices(t, d, done)
	}
}

// Both sides write on behind a copy: neither's writes are the other's.
func TestBothSidesOfACopyWrite(t *testing.T) {
	for ahead := range 10 {
		d := made(t, 2)
		for i := range ahead {
			wantOK(t, "Write", d.Write(0, some(i)))
		}
		c, third := d.Copy(), d.Copy()
		wantOK(t, "Write", d.Write(1, all(1)))
		wantOK(t, "Write", c.Write(1, all(2)))
		wantOK(t, "Write", third.Write(1, all(3)))
		l := append(make([]int, ahead), 64)
		for i, x := range []*disk.Disk{d, c, third} {
			wantRead(t, x, 1, all(byte(i+1)))
			wantCrash(t, x, l, ahead+1, api.OK)
			wantBoth(t, x, 1, all(byte(i+1)))
			wantBoth(t, x, 0, api.Block{})
		}
	}
}

// P5.4 (what follows): from here on.

// What is sure, and not written since, stays, wherever the power is cut.
func TestWhatIsSureStays(t *testing.T) {
	for _, pick := range picks() {
		for many := range 8 {
			d := filled(t, 8)
			for n := range many {
				wantOK(t, "Write", d.Write(n, some(50+n)))
			}
			wantCrash(t, d, []int{pick, pick, pick, pick, pick, pick, pick, pick}, many, api.OK)
			for n := many; n < 8; n++ {
				wantBoth(t, d, n, some(n))
			}
		}
	}
}

// history is what was done to a device, as the words say it: of each byte, what
// was written there, and what it is if all of that is lost.
type history struct {
	sure   [][size]byte
	writes []int
	bytes  [][size]byte
}

// read is what is read there: the newest of its writes.
func (h *history) read(n int) api.Block {
	out := h.sure[n]
	for i, m := range h.writes {
		if m == n {
			out = h.bytes[i]
		}
	}
	return out
}

// cut leaves each byte as the newest write has it whose number is above its place.
func (h *history) cut(picks []int) {
	for n := range h.sure {
		for at := range size {
			for i, m := range h.writes {
				if m == n && i < len(picks) && picks[i] > at {
					h.sure[n][at] = h.bytes[i][at]
				}
			}
		}
	}
	h.writes, h.bytes = nil, nil
}

// turn gives numbers of all kinds from a seed.
type turn uint64

func (r *turn) below(n int) int {
	*r = *r*6364136223846793005 + 1442695040888963407
	return int(*r>>33) % n
}

// step does one thing to a device and to its history.
func (h *history) step(t *testing.T, r *turn, d *disk.Disk) {
	n := r.below(len(h.sure))
	switch r.below(12) {
	case 0:
		wantOK(t, "Flush", d.Flush())
		h.cut(slices.Repeat([]int{size}, len(h.writes)))
	case 1:
		var l []int
		for range r.below(len(h.writes) + 3) {
			l = append(l, r.below(size+6)-3)
		}
		wantCrash(t, d, l, min(len(l), len(h.writes)), api.OK)
		h.cut(l)
	case 2:
		at, by := r.below(size), byte(r.below(256))
		wantOK(t, "Rot", d.Rot(n, at, by))
		h.sure[n] = spoilt(h.sure[n], at, by)
	case 3:
		wantNot(t, d, len(h.sure)+n, api.ErrArg)
		wantNot(t, d, -1-n, api.ErrArg)
	default:
		b := some(r.below(1 << 20))
		wantOK(t, "Write", d.Write(n, b))
		h.writes, h.bytes = append(h.writes, n), append(h.bytes, b)
	}
}

// Some thousands of steps of all kinds: each answer is the history's, and goes
// on from what is sure behind each cut; with all kept a cut is as a Flush, with
// none as what was sure.
func TestAgainstTheHistory(t *testing.T) {
	for seed, sectors := range []int{1, 2, 3, 5, 20, maxSectors} {
		r, d, h := turn(seed), made(t, sectors), &history{sure: make([][size]byte, sectors)}
		for range 1500 {
			h.step(t, &r, d)
			wantLoose(t, d, len(h.writes))
			kept, lost := d.Copy(), d.Copy()
			wantCrash(t, kept, slices.Repeat([]int{size}, len(h.writes)), len(h.writes), api.OK)
			wantCrash(t, lost, nil, 0, api.OK)
			for _, n := range append(edges(sectors), r.below(sectors)) {
				wantRead(t, d, n, h.read(n))
				wantSure(t, d, n, h.sure[n])
				wantBoth(t, kept, n, h.read(n))
				wantBoth(t, lost, n, h.sure[n])
			}
			if t.Failed() {
				t.FailNow()
			}
		}
	}
}

// With all kept it is as without a cut, and with none as it was sure.
func TestAllOrNoneKept(t *testing.T) {
	d := busy(t)
	kept, lost, flushed := d.Copy(), d.Copy(), d.Copy()
	wantCrash(t, kept, []int{64, 65, top}, 3, api.OK)
	wantCrash(t, lost, []int{0, -1, bottom}, 3, api.OK)
	wantOK(t, "Flush", flushed.Flush())
	sameDevices(t, kept, flushed)
	for n := range 4 {
		now, _ := d.Read(n)
		sure, _ := d.Sure(n)
		wantBoth(t, kept, n, now)
		wantBoth(t, lost, n, sure)
	}
}

// Rules 3 to 5 and 8 (what is handed in, and what is answered): from here on.

// What is handed in stays as it is, the room behind its end too, and is not kept.
func TestArgumentsStay(t *testing.T) {
	room, kept := picks(), picks()
	for end := range len(room) + 1 {
		d := filled(t, 2)
		for i := range 30 {
			wantOK(t, "Write", d.Write(i%2, some(i)))
		}
		wantCrash(t, d, room[:end], min(end, 30), api.OK)
	}
	if !slices.Equal(room, kept) {
		t.Errorf("the numbers that were handed in are %v; they were %v", room, kept)
	}
}

func TestNothingIsShared(t *testing.T) {
	d, b := made(t, 1), all(7)
	wantOK(t, "Write", d.Write(0, b))
	b[0] = 8
	wantRead(t, d, 0, all(7))
	r, _ := d.Read(0)
	r[1] = 9
	wantOK(t, "Flush", d.Flush())
	s, _ := d.Sure(0)
	s[2] = 10
	wantBoth(t, d, 0, all(7))
	l := []int{5}
	wantOK(t, "Write", d.Write(0, all(1)))
	wantCrash(t, d, l, 1, api.OK)
	l[0] = 64
	wantBoth(t, d, 0, start(5, all(1), all(7)))
}

// Two devices have nothing to do with each other.
func TestDevicesAreApart(t *testing.T) {
	a, b := filled(t, 2), filled(t, 2)
	wantOK(t, "Write", a.Write(0, all(1)))
	wantOK(t, "Rot", a.Rot(1, 1, 1))
	sameDevices(t, b, filled(t, 2))
	wantOK(t, "Fail", a.Fail())
	sameDevices(t, b, filled(t, 2))
}

// What only asks changes nothing, and answers the same again.
func TestAskingChangesNothing(t *testing.T) {
	d := busy(t)
	for range 3 {
		for n := -1; n <= 4; n++ {
			d.Read(n)
			d.Sure(n)
		}
		d.Loose()
		d.Dead()
		d.Sectors()
		d.Copy()
		sameDevices(t, d, busy(t))
	}
}

// An error has changed nothing: what is loose is loose still, and is cut as before.
func TestErrorsChangeNothing(t *testing.T) {
	d := busy(t)
	for _, n := range beyond(4) {
		if n < 0 || n >= 4 {
			wantNot(t, d, n, api.ErrArg)
		}
	}
	want(t, "Rot", d.Rot(1, size, 1), api.ErrArg)
	want(t, "Rot", d.Rot(1, -1, 1), api.ErrArg)
	other := busy(t)
	sameDevices(t, d, other)
	wantCrash(t, d, []int{10, 20, 30}, 3, api.OK)
	wantCrash(t, other, []int{10, 20, 30}, 3, api.OK)
	sameDevices(t, d, other)
}
