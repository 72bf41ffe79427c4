package log_test

import (
	"math"
	"slices"
	"strconv"
	"testing"

	"ashlar/api"
	"ashlar/bench"
	"ashlar/cells"
	"ashlar/log"
	"ashlar/mark"
	"ashlar/note"
)

// The document's numbers, written out, so that a part that stands elsewhere is told.
const (
	size     = 64
	slots    = 8
	notesAt  = 2
	ringAt   = 10
	minRing  = 40
	maxRing  = 256
	least    = 50
	maxCells = 32
	top      = 2305843009213693952
	greatest = 1<<64 - 1
)

// id is the number of the array of which the tests' logs are.
const id = 0x0102030405060708

// some is a sector that is another one for each seed.
func some(seed int) api.Block {
	var b api.Block
	x := uint32(seed)*2654435761 + 1
	for i := range b {
		x = x*1664525 + 1013904223
		b[i] = byte(x >> 24)
	}
	return b
}

// row is so many cells at places that differ, with blocks that no other row has.
func row(many, seed int) []api.Cell {
	l := make([]api.Cell, many)
	for i := range l {
		l[i].Place = api.Place{Stripe: (seed + 7*i) % 64, Member: (seed + i) % 16}
		l[i].B = some(1000*seed + i + 1)
	}
	return l
}

// sectors is how many sectors a record of so many cells has, counted out.
func sectors(many int) int {
	all := 0
	for i := range many {
		if i%16 == 0 {
			all++
		}
		all++
	}
	return all
}

// filled is a bench of devices whose sectors are all noise, for sure.
func filled(t *testing.T, sizes ...int) *bench.Bench {
	t.Helper()
	b, e := bench.New(sizes)
	wantOK(t, "bench.New", e)
	for d, many := range sizes {
		for n := range many {
			write(t, b, d, n, some(-1000*d-n-1))
		}
		wantOK(t, "Flush", b.Flush(d))
	}
	return b
}

// write writes a sector, and makes it sure.
func write(t *testing.T, b *bench.Bench, d, n int, x api.Block) {
	t.Helper()
	wantOK(t, "Write", b.Write(d, n, x))
	wantOK(t, "Flush", b.Flush(d))
}

// marked is the sector of a mark.
func marked(t *testing.T, count uint64, m api.Mark) api.Block {
	t.Helper()
	b, e := mark.Put(count, m)
	wantOK(t, "mark.Put", e)
	return b
}

// noted is the sector of a note.
func noted(t *testing.T, n api.Note) api.Block {
	t.Helper()
	b, e := note.Put(n)
	wantOK(t, "note.Put", e)
	return b
}

// record is the record of cells.
func record(t *testing.T, c []api.Cell) []api.Block {
	t.Helper()
	l, e := cells.Put(c)
	wantOK(t, "cells.Put", e)
	return l
}

// model is what a log is, by the document's words.
type model struct {
	ring    int
	count   uint64
	first   uint64
	at      uint64
	records [][]api.Cell
}

func (m model) next() uint64 { return m.first + uint64(len(m.records)) }

// begin is where the record begins that has so many ahead of it.
func (m model) begin(ahead int) uint64 {
	at := m.at
	for _, c := range m.records[:ahead] {
		at += uint64(sectors(len(c)))
	}
	return at
}

func (m model) head() uint64 { return m.begin(len(m.records)) }

func (m model) free() int { return m.ring - int(m.head()-m.at) }

func (m model) mark() api.Mark { return api.Mark{Id: id, Ring: m.ring, First: m.first, At: m.at} }

// note is that of the record that has so many ahead of it.
func (m model) note(ahead int) api.Note {
	c := m.records[ahead]
	l, _ := cells.Put(c)
	return api.Note{Seq: m.first + uint64(ahead), At: m.begin(ahead), Cells: len(c), Sum: cells.Sum(l)}
}

// with is the model behind an Append of cells.
func (m model) with(c []api.Cell) model {
	m.records = append(slices.Clone(m.records), slices.Clone(c))
	return m
}

// cleared is the model behind a Clear.
func (m model) cleared(first uint64) model {
	gone := int(first - m.first)
	m.count, m.at, m.first = m.count+1, m.begin(gone), first
	m.records = slices.Clone(m.records[gone:])
	return m
}

// place is the sector of a position.
func (m model) place(at uint64) int { return ringAt + int(at%uint64(m.ring)) }

// stand makes a log stand on a device, whatever stood there, mark and notes and records.
func (m model) stand(t *testing.T, b *bench.Bench, d int) {
	t.Helper()
	write(t, b, d, int(m.count%2), marked(t, m.count, m.mark()))
	for i, c := range m.records {
		n := m.note(i)
		write(t, b, d, notesAt+int(n.Seq%slots), noted(t, n))
		for k, x := range record(t, c) {
			write(t, b, d, m.place(n.At+uint64(k)), x)
		}
	}
}

// fresh is a log that was laid.
func fresh(ring int) model { return model{ring: ring, count: 1, first: 1} }

// holding is a log in which records of so many cells live.
func holding(ring int, first, at uint64, many ...int) model {
	m := model{ring: ring, count: 6, first: first, at: at}
	for i, n := range many {
		m.records = append(m.records, row(n, i+1))
	}
	return m
}

// opened is a log that stands on a bench of three devices, on the second one of
// so many sectors as it takes.
func opened(t *testing.T, m model) (*bench.Bench, *log.Log) {
	t.Helper()
	b := filled(t, 3, ringAt+m.ring, 4)
	m.stand(t, b, 1)
	return b, reopened(t, b, m)
}

// reopened is that log opened anew.
func reopened(t *testing.T, b *bench.Bench, m model) *log.Log {
	t.Helper()
	l, e := log.Open(b, 1)
	wantOK(t, "Open", e)
	wantLog(t, l, m)
	return l
}

func want(t *testing.T, what string, got, want api.Errno) {
	t.Helper()
	if got != want {
		t.Fatalf("%s = %d, want %d", what, got, want)
	}
}

func wantOK(t *testing.T, what string, e api.Errno) {
	t.Helper()
	want(t, what, e, api.OK)
}

// wantNoLog says that no log is answered, but an error.
func wantNoLog(t *testing.T, what string, l *log.Log, got, e api.Errno) {
	t.Helper()
	want(t, what, got, e)
	if l != nil {
		t.Fatalf("%s = a log beside the error %d", what, e)
	}
}

func wantLive(t *testing.T, l *log.Log, first, next uint64) {
	t.Helper()
	if a, b := l.Live(); a != first || b != next {
		t.Fatalf("Live = %d %d, want %d %d", a, b, first, next)
	}
}

func wantRecord(t *testing.T, l *log.Log, seq uint64, c []api.Cell) {
	t.Helper()
	got, e := l.Record(seq)
	want(t, "Record", e, api.OK)
	if !slices.Equal(got, c) {
		t.Fatalf("Record(%d) = %v, want %v", seq, got, c)
	}
}

func wantNoRecord(t *testing.T, l *log.Log, seq uint64, e api.Errno) {
	t.Helper()
	c, got := l.Record(seq)
	want(t, "Record("+strconv.FormatUint(seq, 10)+")", got, e)
	if len(c) != 0 {
		t.Fatalf("Record(%d) = %v beside the error %d", seq, c, e)
	}
}

func wantNoAppend(t *testing.T, l *log.Log, c []api.Cell, e api.Errno) {
	t.Helper()
	seq, got := l.Append(c)
	want(t, "Append", got, e)
	if seq != 0 {
		t.Fatalf("Append = %d beside the error %d", seq, e)
	}
}

// wantTold says what a log tells of itself, without a look at its device.
func wantTold(t *testing.T, l *log.Log, m model) {
	t.Helper()
	wantLive(t, l, m.first, m.next())
	if l.Free() != m.free() || l.Id() != id || l.Ring() != m.ring {
		t.Fatalf("Free, Id, Ring = %d %d %d, want %d %d %d", l.Free(), l.Id(), l.Ring(), m.free(), uint64(id), m.ring)
	}
}

// wantLog says that a log is as a model, each of its records, too.
func wantLog(t *testing.T, l *log.Log, m model) {
	t.Helper()
	wantTold(t, l, m)
	for i, c := range m.records {
		wantRecord(t, l, m.first+uint64(i), c)
	}
	for _, seq := range []uint64{m.first - 1, m.next(), m.next() + 1, m.next() + 8, 0, greatest} {
		wantNoRecord(t, l, seq, api.ErrNone)
	}
}

// device is what is read of each sector of a device.
func device(t *testing.T, b *bench.Bench, d int) []api.Block {
	t.Helper()
	l := make([]api.Block, b.Sectors(d))
	for n := range l {
		x, e := b.Read(d, n)
		wantOK(t, "Read", e)
		l[n] = x
	}
	return l
}

// wantDevice says what stands on a device.
func wantDevice(t *testing.T, what string, b *bench.Bench, d int, l []api.Block) {
	t.Helper()
	for n, x := range device(t, b, d) {
		if x != l[n] {
			t.Fatalf("%s: sector %d of device %d is %x, want %x", what, n, d, x, l[n])
		}
	}
}

// wantSame says that two benches have the same sectors, and did as many steps.
func wantSame(t *testing.T, what string, a, b *bench.Bench) {
	t.Helper()
	if a.Steps() != b.Steps() {
		t.Fatalf("%s: %d steps, want %d", what, a.Steps(), b.Steps())
	}
	for d := range b.Devices() {
		wantDevice(t, what, a, d, device(t, b, d))
	}
}

// deed is a step that is awaited: a write, or, where the sector is below 0, a flush.
type deed struct {
	sector int
	b      api.Block
}

func flush() deed { return deed{sector: -1} }

// laying are the steps of a Lay.
func laying(t *testing.T, ring int) []deed {
	var l []deed
	for n := range ringAt {
		l = append(l, deed{sector: n})
	}
	return append(l, flush(), deed{1, marked(t, 1, fresh(ring).mark())}, flush())
}

// appending are the steps of an Append to a log.
func appending(t *testing.T, m model, c []api.Cell) []deed {
	var l []deed
	for i, x := range record(t, c) {
		l = append(l, deed{m.place(m.head() + uint64(i)), x})
	}
	n := m.with(c).note(len(m.records))
	return append(l, flush(), deed{notesAt + int(n.Seq%slots), noted(t, n)}, flush())
}

// clearing are the steps of a Clear of a log.
func clearing(t *testing.T, m model, first uint64) []deed {
	m = m.cleared(first)
	return []deed{{int(m.count % 2), marked(t, m.count, m.mark())}, flush()}
}

// behind are the sectors behind the first so many deeds, as they are read, and as they are sure.
func behind(start []api.Block, deeds []deed) (all, sure []api.Block) {
	all, sure = slices.Clone(start), slices.Clone(start)
	for _, d := range deeds {
		if d.sector < 0 {
			copy(sure, all)
			continue
		}
		all[d.sector] = d.b
	}
	return all, sure
}

// keep are picks by which all that is not sure is kept.
func keep() []int { return slices.Repeat([]int{size}, 100) }

// try is something that is done on the bench, or a log on it; it answers an error.
type try func(b *bench.Bench, l *log.Log) api.Errno

// wantDeeds says that a call takes these steps on the second device, one behind
// the other, and no other step: by the power that is cut at each, with all kept
// and with nothing.
func wantDeeds(t *testing.T, b *bench.Bench, deeds []deed, open bool, do try) {
	t.Helper()
	start := device(t, b, 1)
	for n := range len(deeds) + 1 {
		c := b.Copy()
		var l *log.Log
		if open {
			var e api.Errno
			l, e = log.Open(c, 1)
			wantOK(t, "Open", e)
		}
		wantOK(t, "Arm", c.Arm(n+1))
		e := do(c, l)
		switch {
		case n < len(deeds):
			want(t, "cut at a step", e, api.ErrPower)
		default:
			wantOK(t, "cut behind all steps", e)
		}
		if c.Dark() != (n < len(deeds)) || c.Steps() != b.Steps()+n {
			t.Fatalf("at %d of %d: dark is %t, %d steps", n, len(deeds), c.Dark(), c.Steps()-b.Steps())
		}
		what := "behind step " + strconv.Itoa(n)
		all, sure := behind(start, deeds[:n])
		kept, lost := c.Copy(), c.Copy()
		wantOK(t, "Crash", kept.Crash(keep()))
		wantOK(t, "Crash", lost.Crash(nil))
		wantDevice(t, what+", all kept", kept, 1, all)
		wantDevice(t, what+", nothing kept", lost, 1, sure)
		for _, d := range []int{0, 2} {
			wantDevice(t, what, kept, d, device(t, b, d))
		}
	}
}

// The chapter's examples.

func TestExamples(t *testing.T) {
	b, e := bench.New([]int{50})
	wantOK(t, "bench.New", e)
	l, e := log.Open(b, 0)
	wantNoLog(t, "Open(0)", l, e, api.ErrForm)
	l, e = log.Lay(b, 0, 7, 40)
	wantOK(t, "Lay(0, 7, 40)", e)
	wantLive(t, l, 1, 1)
	seq, e := l.Append(row(1, 1))
	wantOK(t, "Append", e)
	if seq != 1 {
		t.Fatalf("Append = %d", seq)
	}
	wantLive(t, l, 1, 2)
	if l.Free() != 38 {
		t.Fatalf("Free = %d", l.Free())
	}
	wantRecord(t, l, 1, row(1, 1))
	wantOK(t, "Clear(2)", l.Clear(2))
	if l.Free() != 40 {
		t.Fatalf("Free = %d", l.Free())
	}
	wantNoRecord(t, l, 1, api.ErrNone)
	other, e := log.Lay(b, 1, 7, 40)
	wantNoLog(t, "Lay(1, 7, 40)", other, e, api.ErrArg)
	other, e = log.Lay(b, 0, 7, 41)
	wantNoLog(t, "Lay(0, 7, 41)", other, e, api.ErrArg)
}

// Rule 5: no log, a zero one; no bench, a zero one.

func TestNilAndZeroLog(t *testing.T) {
	for _, l := range []*log.Log{nil, {}} {
		for _, c := range [][]api.Cell{nil, row(1, 1), row(33, 1), {{Place: api.Place{Stripe: -1}}}} {
			wantNoAppend(t, l, c, api.ErrNil)
		}
		for _, n := range []uint64{0, 1, 2, greatest} {
			wantNoRecord(t, l, n, api.ErrNil)
			want(t, "Clear", l.Clear(n), api.ErrNil)
		}
		wantLive(t, l, 0, 0)
		if l.Free() != 0 || l.Id() != 0 || l.Ring() != 0 {
			t.Errorf("Free, Id, Ring = %d %d %d", l.Free(), l.Id(), l.Ring())
		}
	}
}

func TestNilAndZeroBench(t *testing.T) {
	for _, b := range []*bench.Bench{nil, {}} {
		for _, d := range []int{math.MinInt, -1, 0, 1, math.MaxInt} {
			for _, ring := range []int{-1, 0, 40, 256, 257} {
				for _, n := range []uint64{0, 7} {
					l, e := log.Lay(b, d, n, ring)
					wantNoLog(t, "Lay", l, e, api.ErrNil)
				}
			}
			l, e := log.Open(b, d)
			wantNoLog(t, "Open", l, e, api.ErrNil)
		}
	}
}

// P14.1 (Lay, Open): from here on.

func TestLayOfEachRing(t *testing.T) {
	for ring := minRing; ring <= maxRing; ring++ {
		for _, more := range []int{0, 1, 100} {
			b := filled(t, 3, ringAt+ring+more, 4)
			start := device(t, b, 1)
			l, e := log.Lay(b, 1, id, ring)
			wantOK(t, "Lay", e)
			wantLog(t, l, fresh(ring))
			all, sure := behind(start, laying(t, ring))
			wantDevice(t, "Lay", b, 1, all)
			wantOK(t, "Crash", b.Crash(nil))
			wantDevice(t, "Lay, cut", b, 1, sure)
			wantLog(t, reopened(t, b, fresh(ring)), fresh(ring))
		}
	}
}

func TestLayOfNoRing(t *testing.T) {
	b := filled(t, 3, 512, 4)
	c := b.Copy()
	for _, ring := range []int{math.MinInt, math.MinInt + 9, -257, -40, -1, 0, 1, 8, 10, 39, 257, 258, 502, 512, 1<<16 + 40, math.MaxInt - 9, math.MaxInt} {
		l, e := log.Lay(b, 1, id, ring)
		wantNoLog(t, "Lay, ring "+strconv.Itoa(ring), l, e, api.ErrArg)
	}
	wantSame(t, "Lay of no ring", b, c)
}

func TestLayOfEachId(t *testing.T) {
	for _, n := range []uint64{1, 2, 255, 1 << 32, 1 << 63, greatest - 1, greatest} {
		b := filled(t, 3, least, 4)
		l, e := log.Lay(b, 1, n, minRing)
		wantOK(t, "Lay", e)
		if l.Id() != n {
			t.Fatalf("Id = %d, want %d", l.Id(), n)
		}
		l, e = log.Open(b, 1)
		wantOK(t, "Open", e)
		if l.Id() != n {
			t.Fatalf("Id = %d behind Open, want %d", l.Id(), n)
		}
	}
}

func TestLayOfNoId(t *testing.T) {
	b := filled(t, 3, least, 4)
	c := b.Copy()
	l, e := log.Lay(b, 1, 0, minRing)
	wantNoLog(t, "Lay", l, e, api.ErrArg)
	wantSame(t, "Lay of no id", b, c)
}

func TestLayAndOpenOfNoDevice(t *testing.T) {
	b := filled(t, 3, least, 4)
	m := holding(minRing, 3, 8, 1)
	m.stand(t, b, 1)
	c := b.Copy()
	for _, d := range []int{math.MinInt, math.MinInt + 1, -2, -1, 3, 4, 17, math.MaxInt - 1, math.MaxInt} {
		l, e := log.Lay(b, d, id, minRing)
		wantNoLog(t, "Lay", l, e, api.ErrArg)
		l, e = log.Open(b, d)
		wantNoLog(t, "Open", l, e, api.ErrArg)
	}
	wantSame(t, "no device", b, c)
	reopened(t, b, m)
}

func TestLayOfEachDevice(t *testing.T) {
	b := filled(t, least, least, least)
	for d := range 3 {
		c := b.Copy()
		l, e := log.Lay(c, d, uint64(d+1), minRing)
		wantOK(t, "Lay", e)
		wantLive(t, l, 1, 1)
		for other := range 3 {
			if other == d {
				l, e := log.Open(c, other)
				wantOK(t, "Open", e)
				wantLive(t, l, 1, 1)
				continue
			}
			wantDevice(t, "Lay", c, other, device(t, b, other))
			l, e := log.Open(c, other)
			wantNoLog(t, "Open", l, e, api.ErrForm)
		}
	}
}

func TestLayOfTooFewSectors(t *testing.T) {
	for _, many := range []int{1, 2, 10, 39, 40, 48, 49, 50, 51, 100, 265, 266, 267, 512} {
		b := filled(t, 3, many, 4)
		c := b.Copy()
		for _, ring := range []int{40, 41, 42, 43, 89, 90, 91, 255, 256} {
			a := b.Copy()
			l, e := log.Lay(a, 1, id, ring)
			if ringAt+ring <= many {
				wantOK(t, "Lay", e)
				wantLog(t, l, fresh(ring))
				continue
			}
			wantNoLog(t, "Lay", l, e, api.ErrArg)
			wantSame(t, "Lay of too few", a, c)
		}
	}
}

func TestLaySteps(t *testing.T) {
	for _, ring := range []int{40, 77, 256} {
		b := filled(t, 3, ringAt+ring+2, 4)
		do := func(b *bench.Bench, _ *log.Log) api.Errno {
			l, e := log.Lay(b, 1, id, ring)
			if e != api.OK && l != nil {
				t.Fatalf("Lay = a log beside the error %d", e)
			}
			return e
		}
		wantDeeds(t, b, laying(t, ring), false, do)
		for first := range uint64(9) {
			c := b.Copy()
			m := holding(ring, first+1, 5, 1, 2, 1)
			m.stand(t, c, 1)
			wantDeeds(t, c, laying(t, ring), false, do)
		}
	}
}

func TestLayAndOpenRefused(t *testing.T) {
	for _, way := range []struct {
		spoil func(b *bench.Bench)
		e     api.Errno
	}{
		{func(b *bench.Bench) { b.Fail(1) }, api.ErrDead},
		{func(b *bench.Bench) { b.Arm(1); b.Flush(0) }, api.ErrPower},
		{func(b *bench.Bench) { b.Fail(1); b.Arm(1); b.Flush(0) }, api.ErrPower},
	} {
		b := filled(t, 3, least, 4)
		holding(minRing, 3, 8, 1).stand(t, b, 1)
		way.spoil(b)
		steps := b.Steps()
		l, e := log.Lay(b, 1, id, minRing)
		wantNoLog(t, "Lay", l, e, way.e)
		l, e = log.Open(b, 1)
		wantNoLog(t, "Open", l, e, way.e)
		// An argument that may not be comes ahead of that.
		for _, f := range []func() (*log.Log, api.Errno){
			func() (*log.Log, api.Errno) { return log.Lay(b, 1, 0, minRing) },
			func() (*log.Log, api.Errno) { return log.Lay(b, 1, id, 39) },
			func() (*log.Log, api.Errno) { return log.Lay(b, 1, id, 41) },
			func() (*log.Log, api.Errno) { return log.Lay(b, 3, id, minRing) },
			func() (*log.Log, api.Errno) { return log.Lay(b, 2, id, minRing) },
			func() (*log.Log, api.Errno) { return log.Open(b, -1) },
			func() (*log.Log, api.Errno) { return log.Open(b, 3) },
			func() (*log.Log, api.Errno) { return log.Open(b, 2) },
		} {
			l, e := f()
			wantNoLog(t, "a wrong argument", l, e, api.ErrArg)
		}
		if b.Steps() != steps {
			t.Fatalf("%d steps", b.Steps()-steps)
		}
	}
}

// A device that is dead refuses the mark as it would a record: nothing is written then.
func TestLayOnADeadOneAndAnew(t *testing.T) {
	b := filled(t, 3, least, 4)
	wantOK(t, "Fail", b.Fail(1))
	l, e := log.Lay(b, 1, id, minRing)
	wantNoLog(t, "Lay", l, e, api.ErrDead)
	wantOK(t, "Insert", b.Insert(1))
	wantDevice(t, "Insert", b, 1, make([]api.Block, least))
	l, e = log.Open(b, 1)
	wantNoLog(t, "Open", l, e, api.ErrForm)
	l, e = log.Lay(b, 1, id, minRing)
	wantOK(t, "Lay", e)
	wantLog(t, l, fresh(minRing))
}

func TestLayOverAnOlderLog(t *testing.T) {
	for first := range uint64(9) {
		m := holding(minRing, first+1, 30, 1, 2, 3, 1, 1, 1, 1, 1)
		b, _ := opened(t, m)
		// The older mark stands there, too.
		write(t, b, 1, 1, marked(t, 5, m.mark()))
		l, e := log.Lay(b, 1, id, minRing)
		wantOK(t, "Lay", e)
		wantLog(t, l, fresh(minRing))
		reopened(t, b, fresh(minRing))
		for n := range ringAt {
			x, e := b.Sure(1, n)
			wantOK(t, "Sure", e)
			_, _, bad := mark.Get(x)
			if (bad == api.OK) != (n == 1) {
				t.Fatalf("a mark in sector %d: %d", n, bad)
			}
			if _, e := note.Get(x); e == api.OK && n != 1 {
				t.Fatalf("a note in sector %d", n)
			}
		}
		l, _ = log.Open(b, 1)
		seq, e := l.Append(row(2, 9))
		wantOK(t, "Append", e)
		if seq != 1 {
			t.Fatalf("Append = %d", seq)
		}
		reopened(t, b, fresh(minRing).with(row(2, 9)))
	}
}

func TestOpenWithoutAMark(t *testing.T) {
	m := holding(minRing, 3, 8, 1, 2)
	for _, x := range []api.Block{{}, some(77)} {
		b, _ := opened(t, m)
		write(t, b, 1, 0, x)
		write(t, b, 1, 1, some(78))
		l, e := log.Open(b, 1)
		wantNoLog(t, "Open", l, e, api.ErrForm)
	}
	b, e := bench.New([]int{3, least, 4})
	wantOK(t, "bench.New", e)
	l, e := log.Open(b, 1)
	wantNoLog(t, "Open of 0s", l, e, api.ErrForm)
}

func TestOpenOfEitherMark(t *testing.T) {
	m := holding(minRing, 3, 8, 1, 2)
	for n := range 2 {
		b, _ := opened(t, m)
		write(t, b, 1, 0, some(77))
		write(t, b, 1, 1, api.Block{})
		write(t, b, 1, n, marked(t, m.count, m.mark()))
		reopened(t, b, m)
	}
}

// The newer of two marks counts, whichever it is; and of marks of one count the first one.
func TestOpenOfTwoMarks(t *testing.T) {
	m := holding(minRing, 3, 8, 1, 2, 1)
	next := m.cleared(5)
	for n := range 2 {
		b, _ := opened(t, m)
		write(t, b, 1, n, marked(t, m.count, m.mark()))
		write(t, b, 1, 1-n, marked(t, next.count, next.mark()))
		reopened(t, b, next)
		write(t, b, 1, 1-n, marked(t, m.count-1, next.mark()))
		reopened(t, b, m)
	}
	b, _ := opened(t, m)
	write(t, b, 1, 1, marked(t, m.count, next.mark()))
	reopened(t, b, m)
}

// A mark that is torn, or spoilt, is none: the other one counts then.
func TestOpenOfATornMark(t *testing.T) {
	m := holding(minRing, 3, 8, 1, 2, 1)
	next := m.cleared(5)
	older, newer := marked(t, m.count, m.mark()), marked(t, next.count, next.mark())
	for at := range size {
		b, _ := opened(t, m)
		write(t, b, 1, 0, older)
		torn := some(99)
		copy(torn[:at], newer[:at])
		write(t, b, 1, 1, torn)
		reopened(t, b, m)
		spoilt := newer
		spoilt[at] ^= 0x10
		write(t, b, 1, 1, spoilt)
		reopened(t, b, m)
		write(t, b, 1, 0, api.Block{})
		l, e := log.Open(b, 1)
		wantNoLog(t, "Open", l, e, api.ErrForm)
	}
}

func TestOpenOfEachRing(t *testing.T) {
	for _, room := range []int{40, 41, 42, 100, 255, 256, 300} {
		for _, ring := range []int{40, 41, 42, 43, 99, 100, 101, 254, 255, 256} {
			m := holding(ring, 3, 8, 1, 2)
			b := filled(t, 3, ringAt+room, 4)
			if ring <= room {
				m.stand(t, b, 1)
				reopened(t, b, m)
				continue
			}
			write(t, b, 1, 0, marked(t, m.count, m.mark()))
			l, e := log.Open(b, 1)
			wantNoLog(t, "Open", l, e, api.ErrForm)
		}
	}
}

// The newest mark alone is asked, not an older one that might do.
func TestOpenOfANewestMarkThatIsTooLong(t *testing.T) {
	m := holding(minRing, 3, 8, 1)
	for _, next := range []struct {
		count uint64
		mark  api.Mark
	}{
		{7, api.Mark{Id: id, Ring: 41, First: 3, At: 8}},
		{7, api.Mark{Id: id, Ring: 256, First: 3, At: 8}},
		{top + 1, m.mark()},
		{7, api.Mark{Id: id, Ring: 40, First: top + 1, At: 8}},
		{7, api.Mark{Id: id, Ring: 40, First: 3, At: top + 1}},
	} {
		b, _ := opened(t, m)
		write(t, b, 1, 1, marked(t, next.count, next.mark))
		l, e := log.Open(b, 1)
		wantNoLog(t, "Open", l, e, api.ErrForm)
		write(t, b, 1, 1, some(5))
		reopened(t, b, m)
	}
}

func TestOpenOfTooFewSectors(t *testing.T) {
	m := holding(minRing, 3, 8, 1)
	for _, many := range []int{1, 2, 9, 10, 11, 48, 49} {
		b := filled(t, 3, many, 4)
		write(t, b, 1, 0, marked(t, 6, m.mark()))
		l, e := log.Open(b, 1)
		wantNoLog(t, "Open", l, e, api.ErrArg)
	}
	b := filled(t, 3, 50, 4)
	m.stand(t, b, 1)
	reopened(t, b, m)
	b = filled(t, 3, 512, 4)
	m.stand(t, b, 1)
	reopened(t, b, m)
}

func TestOpenOfTheGreatestNumbers(t *testing.T) {
	for _, first := range []uint64{1, 2, top - 1, top, top + 1, 2*top - 1, 2 * top} {
		for _, at := range []uint64{0, 1, top - 1, top, top + 1, 2*top - 1, 2 * top} {
			for _, count := range []uint64{1, 2, top - 1, top, top + 1, 2*top - 1, 2 * top} {
				m := model{ring: minRing, count: count, first: first, at: at}
				b := filled(t, 3, least, 4)
				write(t, b, 1, int(count%2), marked(t, count, m.mark()))
				if first <= top && at <= top && count <= top {
					reopened(t, b, m)
					continue
				}
				l, e := log.Open(b, 1)
				wantNoLog(t, "Open", l, e, api.ErrForm)
			}
		}
	}
}

// A log of the greatest numbers goes on as any other.
func TestOpenOfTheGreatestNumbersGoesOn(t *testing.T) {
	m := model{ring: 43, count: top - 1, first: top, at: top}
	b := filled(t, 3, ringAt+43, 4)
	m.stand(t, b, 1)
	l := reopened(t, b, m)
	for n := range 20 {
		c := row(n%3+1, n)
		seq, e := l.Append(c)
		wantOK(t, "Append", e)
		if seq != m.next() {
			t.Fatalf("Append = %d, want %d", seq, m.next())
		}
		m = m.with(c)
		wantLog(t, l, m)
		if n%2 == 1 {
			m = m.cleared(m.first + 2)
			wantOK(t, "Clear", l.Clear(m.first))
			wantLog(t, l, m)
		}
	}
}

func TestOpenOfEachNumberOfNotes(t *testing.T) {
	for _, ring := range []int{40, 64, 256} {
		for first := uint64(1); first < 20; first++ {
			for _, at := range []uint64{0, 1, 39, 40, 1000, top} {
				for many := range slots + 1 {
					m := holding(ring, first, at, []int{1, 2, 1, 1, 3, 2, 1, 1}[:many]...)
					opened(t, m)
				}
			}
		}
	}
}

// The ninth note stands where the first one would: no log has nine.
func TestOpenOfMoreThanNotes(t *testing.T) {
	m := holding(minRing, 3, 8, 1, 1, 1, 1, 1, 1, 1, 1)
	b, _ := opened(t, m)
	ninth := m.with(row(1, 9)).note(8)
	write(t, b, 1, notesAt+int(ninth.Seq%slots), noted(t, ninth))
	reopened(t, b, model{ring: minRing, count: 6, first: 3, at: 8})
}

// Where one note is not as it has to be, the log lives up to it alone, whatever stands behind.
func TestOpenOfANoteThatIsNone(t *testing.T) {
	whole := holding(minRing, 6, 75, 2, 1, 3, 1, 2)
	for i := range whole.records {
		good := whole.note(i)
		least := whole
		least.records = whole.records[:i]
		x := noted(t, good)
		var bad []api.Block
		for at := range size {
			spoilt := x
			spoilt[at] ^= 1
			torn := some(55)
			copy(torn[:at], x[:at])
			bad = append(bad, spoilt, torn)
		}
		for _, seq := range []uint64{1, good.Seq - 1, good.Seq + 1, good.Seq - 4, good.Seq + 8, good.Seq + 16, 2 * top} {
			bad = append(bad, noted(t, api.Note{Seq: seq, At: good.At, Cells: good.Cells, Sum: good.Sum}))
		}
		for _, at := range []uint64{0, 1, good.At - 1, good.At + 1, good.At - minRing, good.At + minRing, good.At + 2, 2 * top} {
			if at != good.At {
				bad = append(bad, noted(t, api.Note{Seq: good.Seq, At: at, Cells: good.Cells, Sum: good.Sum}))
			}
		}
		bad = append(bad, api.Block{}, some(3), marked(t, 9, whole.mark()), marked(t, good.Seq, whole.mark()))
		b, _ := opened(t, whole)
		for _, y := range bad {
			write(t, b, 1, notesAt+int(good.Seq%slots), y)
			reopened(t, b, least)
		}
		write(t, b, 1, notesAt+int(good.Seq%slots), x)
		reopened(t, b, whole)
	}
}

// A note whose record just fits with those ahead of it; and one that does not by one sector.
func TestOpenOfANoteThatDoesNotFit(t *testing.T) {
	for _, ring := range []int{40, 41, 67, 100} {
		for ahead := range 4 {
			m := holding(ring, 4, 17, []int{1, 3, 2}[:ahead]...)
			for many := 1; many <= maxCells; many++ {
				b, _ := opened(t, m)
				c := row(many, 50)
				n := m.with(c).note(ahead)
				write(t, b, 1, notesAt+int(n.Seq%slots), noted(t, n))
				for k, x := range record(t, c) {
					// A record that does not fit would stand over those ahead of it.
					if k < m.free() {
						write(t, b, 1, m.place(n.At+uint64(k)), x)
					}
				}
				if sectors(many) <= m.free() {
					reopened(t, b, m.with(c))
				} else {
					reopened(t, b, m)
				}
			}
		}
	}
}

func TestOpenOfNotesAheadAndBehindAGap(t *testing.T) {
	m := holding(minRing, 6, 35, 2, 1, 3)
	b, _ := opened(t, m)
	// One that stands ahead of the first that lives, and is whole.
	elder := api.Note{Seq: 5, At: 33, Cells: 1, Sum: 1}
	write(t, b, 1, notesAt+5, noted(t, elder))
	reopened(t, b, m)
	// One behind a gap: the record 9 is not there, but 10 would be.
	gap := m.with(row(1, 4)).with(row(2, 5)).note(4)
	write(t, b, 1, notesAt+int(gap.Seq%slots), noted(t, gap))
	reopened(t, b, m)
	// With the one between it is none any more.
	between := m.with(row(1, 4)).note(3)
	write(t, b, 1, notesAt+int(between.Seq%slots), noted(t, between))
	l, e := log.Open(b, 1)
	wantOK(t, "Open", e)
	wantLive(t, l, 6, 11)
}

// Open reads no record: one that is spoilt lives, and says so when it is asked for.
func TestOpenReadsNotesAlone(t *testing.T) {
	m := holding(minRing, 6, 35, 2, 1, 3)
	b, _ := opened(t, m)
	for n := range minRing {
		write(t, b, 1, ringAt+n, some(n))
	}
	l, e := log.Open(b, 1)
	wantOK(t, "Open", e)
	wantTold(t, l, m)
	for i := range m.records {
		wantNoRecord(t, l, 6+uint64(i), api.ErrSum)
	}
}

func TestOpenTakesNoStep(t *testing.T) {
	m := holding(minRing, 6, 35, 2, 1, 3)
	b, _ := opened(t, m)
	c := b.Copy()
	wantOK(t, "Arm", b.Arm(1))
	reopened(t, b, m)
	reopened(t, b, m)
	wantSame(t, "Open", b, c)
}

// What is written is read, though it is not sure yet.
func TestOpenOfWhatIsNotSure(t *testing.T) {
	m := holding(minRing, 6, 35, 2, 1, 3)
	b, _ := opened(t, m)
	next := m.cleared(8)
	wantOK(t, "Write", b.Write(1, int(next.count%2), marked(t, next.count, next.mark())))
	reopened(t, b, next)
}

// P14.2 (Append): from here on.

func TestAppendOfEachLength(t *testing.T) {
	for many := 1; many <= maxCells; many++ {
		for _, m := range []model{fresh(40), holding(50, 7, 1, 1, 2), holding(256, 16, 250, 5), {ring: 100, count: 9, first: top, at: top}} {
			b, l := opened(t, m)
			c := row(many, 30)
			seq, e := l.Append(c)
			wantOK(t, "Append", e)
			if seq != m.next() {
				t.Fatalf("Append = %d, want %d", seq, m.next())
			}
			wantLog(t, l, m.with(c))
			wantOK(t, "Crash", b.Crash(nil))
			wantLog(t, l, m.with(c))
			reopened(t, b, m.with(c))
		}
	}
}

// strange are lists of cells that cells.Put refuses, and its errors.
func strange() map[api.Errno][][]api.Cell {
	odd := row(3, 1)
	odd[2].Place.Stripe = 64
	other := row(3, 1)
	other[1].Place.Member = 16
	below := row(1, 1)
	below[0].Place.Stripe = -1
	many := row(33, 1)
	many[32].Place.Member = -1
	return map[api.Errno][][]api.Cell{
		api.ErrArg:   {nil, {}, odd, other, below, many},
		api.ErrLimit: {row(33, 1), row(34, 1), row(100, 1)},
	}
}

func TestAppendOfStrangeCells(t *testing.T) {
	full := holding(minRing, 3, 8, 1, 1, 1, 1, 1, 1, 1, 1)
	tight := holding(minRing, 3, 8, 32, 4)
	for _, m := range []model{fresh(40), full, tight} {
		for _, spoil := range []func(b *bench.Bench){
			func(b *bench.Bench) {},
			func(b *bench.Bench) { b.Fail(1) },
			func(b *bench.Bench) { b.Arm(1); b.Flush(0) },
		} {
			b, l := opened(t, m)
			spoil(b)
			steps := b.Steps()
			for e, lists := range strange() {
				for _, c := range lists {
					wantNoAppend(t, l, c, e)
				}
			}
			wantTold(t, l, m)
			if b.Steps() != steps {
				t.Fatalf("%d steps", b.Steps()-steps)
			}
		}
	}
}

// Full: of Notes records, or of a record that takes a sector more than there is,
// or more. It is said ahead of what a device would say.
func TestAppendToAFullLog(t *testing.T) {
	for _, spoil := range []func(b *bench.Bench){
		func(b *bench.Bench) {},
		func(b *bench.Bench) { b.Fail(1) },
		func(b *bench.Bench) { b.Arm(1); b.Flush(0) },
	} {
		for _, m := range []model{
			holding(40, 3, 8, 1, 1, 1, 1, 1, 1, 1, 1),
			holding(256, 4, 99, 1, 1, 1, 1, 1, 1, 1, 1),
			holding(40, 4, 99, 32, 5),
			holding(41, 4, 99, 32, 5),
			holding(42, 4, 99, 32, 5),
			holding(40, 4, 0, 6),
			holding(40, 4, 0, 16, 4),
			holding(40, 4, 0, 16, 3),
			holding(68, 4, 0, 32, 15),
			holding(100, 1, top, 32, 32, 15),
		} {
			b, l := opened(t, m)
			spoil(b)
			steps := b.Steps()
			for many := 1; many <= maxCells; many++ {
				if sectors(many) > m.free() || len(m.records) == slots {
					wantNoAppend(t, l, row(many, 9), api.ErrFull)
				}
			}
			wantTold(t, l, m)
			if b.Steps() != steps {
				t.Fatalf("%d steps", b.Steps()-steps)
			}
		}
	}
}

// Of each number of free sectors: what has as many is taken, what has one more is not.
func TestAppendUpToTheRoom(t *testing.T) {
	for ring := 40; ring <= 75; ring++ {
		m := holding(ring, 5, uint64(ring)-7, 32)
		for many := 1; many <= maxCells; many++ {
			b, l := opened(t, m)
			c := row(many, 9)
			if sectors(many) > ring-34 {
				wantNoAppend(t, l, c, api.ErrFull)
				wantLog(t, l, m)
				reopened(t, b, m)
				continue
			}
			_, e := l.Append(c)
			wantOK(t, "Append", e)
			wantLog(t, l, m.with(c))
			reopened(t, b, m.with(c))
		}
	}
}

func TestAppendUpToNotes(t *testing.T) {
	for first := uint64(1); first < 10; first++ {
		m := model{ring: 40, count: 3, first: first, at: 33}
		b, l := opened(t, m)
		for n := range slots {
			seq, e := l.Append(row(1, n))
			wantOK(t, "Append", e)
			if seq != first+uint64(n) {
				t.Fatalf("Append = %d, want %d", seq, first+uint64(n))
			}
			m = m.with(row(1, n))
			wantLog(t, l, m)
		}
		wantNoAppend(t, l, row(1, 99), api.ErrFull)
		wantLog(t, l, m)
		reopened(t, b, m)
		m = m.cleared(first + 1)
		wantOK(t, "Clear", l.Clear(first+1))
		_, e := l.Append(row(1, 99))
		wantOK(t, "Append", e)
		wantLog(t, l, m.with(row(1, 99)))
		reopened(t, b, m.with(row(1, 99)))
	}
}

// appends is a try of an Append.
func appends(t *testing.T, c []api.Cell) try {
	return func(_ *bench.Bench, l *log.Log) api.Errno {
		seq, e := l.Append(c)
		if e != api.OK && seq != 0 {
			t.Fatalf("Append = %d beside the error %d", seq, e)
		}
		return e
	}
}

// The record's sectors go ahead, round the end of the ring; they are sure when its note is written.
func TestAppendSteps(t *testing.T) {
	for _, m := range []model{
		fresh(40),
		holding(40, 6, 0, 1, 2),
		holding(40, 7, 30, 1, 2),
		holding(41, 8, 39, 1),
		holding(256, 9, 254),
		holding(100, 10, 98, 1, 1, 1, 1, 1, 1, 1),
		{ring: 53, count: 8, first: top, at: top},
	} {
		for _, many := range []int{1, 2, 15, 16, 17, 32} {
			if sectors(many) > m.free() {
				continue
			}
			b, _ := opened(t, m)
			c := row(many, 40)
			wantDeeds(t, b, appending(t, m, c), true, appends(t, c))
		}
	}
}

// Behind an error of bench the log lives as before; the next one stands in the same place.
func TestAppendThatFails(t *testing.T) {
	for _, m := range []model{fresh(40), holding(40, 6, 35, 1, 2), holding(256, 9, 254, 3)} {
		c, other := row(3, 40), row(17, 41)
		start, _ := opened(t, m)
		steps := len(appending(t, m, c))
		for n := 1; n <= steps; n++ {
			for _, picks := range [][]int{nil, keep(), {size, 0, size}, {3, 4, 5, 6}} {
				b := start.Copy()
				l := reopened(t, b, m)
				wantOK(t, "Arm", b.Arm(n))
				wantNoAppend(t, l, c, api.ErrPower)
				wantTold(t, l, m)
				for i := range m.records {
					wantNoRecord(t, l, m.first+uint64(i), api.ErrPower)
				}
				wantNoAppend(t, l, c, api.ErrPower)
				wantOK(t, "Crash", b.Crash(picks))
				wantLog(t, l, m)
				before := device(t, b, 1)
				seq, e := l.Append(other)
				wantOK(t, "Append", e)
				if seq != m.next() {
					t.Fatalf("Append = %d, want %d", seq, m.next())
				}
				all, _ := behind(before, appending(t, m, other))
				wantDevice(t, "the next Append", b, 1, all)
				wantLog(t, l, m.with(other))
				reopened(t, b, m.with(other))
			}
		}
	}
}

func TestAppendAndClearRefused(t *testing.T) {
	m := holding(40, 6, 35, 1, 2)
	for _, way := range []struct {
		spoil func(b *bench.Bench)
		e     api.Errno
	}{
		{func(b *bench.Bench) { b.Fail(1) }, api.ErrDead},
		{func(b *bench.Bench) { b.Arm(1); b.Flush(0) }, api.ErrPower},
		{func(b *bench.Bench) { b.Fail(1); b.Arm(1); b.Flush(0) }, api.ErrPower},
	} {
		b, l := opened(t, m)
		way.spoil(b)
		steps := b.Steps()
		wantNoAppend(t, l, row(2, 5), way.e)
		for first := m.first; first <= m.next(); first++ {
			want(t, "Clear", l.Clear(first), way.e)
		}
		wantNoRecord(t, l, 6, way.e)
		wantNoRecord(t, l, 7, way.e)
		// What does not live, and a First that may not be, come ahead of that.
		for _, seq := range []uint64{0, 5, 8, greatest} {
			wantNoRecord(t, l, seq, api.ErrNone)
		}
		for _, first := range []uint64{0, 5, 9, greatest} {
			want(t, "Clear", l.Clear(first), api.ErrArg)
		}
		wantTold(t, l, m)
		if b.Steps() != steps {
			t.Fatalf("%d steps", b.Steps()-steps)
		}
	}
}

func TestAppendLeavesWhatItIsHanded(t *testing.T) {
	m := holding(40, 6, 35, 1, 2)
	_, l := opened(t, m)
	room := row(5, 9)
	c := room[:3]
	_, e := l.Append(c)
	wantOK(t, "Append", e)
	if !slices.Equal(room, row(5, 9)) {
		t.Fatal("Append changed what it was handed")
	}
	// What is done to it behind the call is not the log's.
	for i := range room {
		room[i] = api.Cell{}
	}
	wantLog(t, l, m.with(row(3, 9)))
}

// P14.3 (Record, Clear, Live, Free, Id, Ring): from here on.

func TestRecordOfEachNumber(t *testing.T) {
	for _, m := range []model{
		fresh(40),
		holding(40, 1, 0, 1),
		holding(40, 2, 39, 32),
		holding(100, 8, 77, 1, 16, 17, 2),
		holding(256, top, top, 1, 2, 3, 4, 5, 6, 7, 32),
	} {
		_, l := opened(t, m)
		for seq := m.first - 1; seq <= m.next()+9; seq++ {
			if seq >= m.first && seq < m.next() {
				wantRecord(t, l, seq, m.records[seq-m.first])
				continue
			}
			wantNoRecord(t, l, seq, api.ErrNone)
		}
		for _, seq := range []uint64{0, 1 << 62, 1<<63 - 1, 1 << 63, greatest - 1, greatest} {
			wantNoRecord(t, l, seq, api.ErrNone)
		}
	}
}

// A byte of a record spoilt: that one has another sum, the others are as they were.
func TestRecordThatIsSpoilt(t *testing.T) {
	m := holding(100, 8, 77, 1, 16, 17, 2)
	b, l := opened(t, m)
	for i, c := range m.records {
		n := m.note(i)
		for k := range sectors(len(c)) {
			sector := m.place(n.At + uint64(k))
			for _, at := range []int{0, 3, 31, 63} {
				wantOK(t, "Rot", b.Rot(1, sector, at, 0x40))
				for other := range m.records {
					if other == i {
						wantNoRecord(t, l, n.Seq, api.ErrSum)
						continue
					}
					wantRecord(t, l, m.first+uint64(other), m.records[other])
				}
				wantOK(t, "Rot", b.Rot(1, sector, at, 0x40))
			}
		}
	}
	wantLog(t, l, m)
}

// A byte that belongs to no record that lives is nobody's.
func TestRecordsBesideWhatIsSpoilt(t *testing.T) {
	m := holding(100, 8, 77, 1, 16, 17, 2)
	b, l := opened(t, m)
	for at := m.head(); at < m.at+100; at++ {
		wantOK(t, "Rot", b.Rot(1, m.place(at), 5, 0xff))
	}
	for n := range ringAt {
		wantOK(t, "Rot", b.Rot(1, n, 5, 0xff))
	}
	wantLog(t, l, m)
}

// The sum is that of the time at which the note was written, or read.
func TestRecordHoldsTheSumThatItHad(t *testing.T) {
	m := fresh(40)
	b, l := opened(t, m)
	_, e := l.Append(row(2, 1))
	wantOK(t, "Append", e)
	other := m.with(row(2, 2))
	for k, x := range record(t, row(2, 2)) {
		write(t, b, 1, ringAt+k, x)
	}
	write(t, b, 1, notesAt+1, noted(t, other.note(0)))
	wantNoRecord(t, l, 1, api.ErrSum)
	l = reopened(t, b, other)
	for k, x := range record(t, row(2, 1)) {
		write(t, b, 1, ringAt+k, x)
	}
	write(t, b, 1, notesAt+1, noted(t, m.with(row(2, 1)).note(0)))
	wantNoRecord(t, l, 1, api.ErrSum)
}

// Sectors whose sum is as the note says, but that are no record's.
func TestRecordThatIsNone(t *testing.T) {
	for _, spoil := range []func(l []api.Block){
		func(l []api.Block) { l[0][0] = 64 },
		func(l []api.Block) { l[0][1] = 1 },
		func(l []api.Block) { l[0][2] = 16 },
		func(l []api.Block) { l[0][3] = 1 },
		func(l []api.Block) { l[0][63] = 1 },
		func(l []api.Block) { l[0][8] = 1 },
	} {
		m := holding(40, 6, 38, 1, 2, 1)
		b, _ := opened(t, m)
		l := record(t, m.records[1])
		spoil(l)
		n := m.note(1)
		n.Sum = cells.Sum(l)
		write(t, b, 1, notesAt+int(n.Seq%slots), noted(t, n))
		for k, x := range l {
			write(t, b, 1, m.place(n.At+uint64(k)), x)
		}
		o, e := log.Open(b, 1)
		wantOK(t, "Open", e)
		wantTold(t, o, m)
		wantNoRecord(t, o, 7, api.ErrForm)
		wantRecord(t, o, 6, m.records[0])
		wantRecord(t, o, 8, m.records[2])
	}
}

func TestRecordTakesNoStep(t *testing.T) {
	m := holding(100, 8, 77, 1, 16, 17, 2)
	b, l := opened(t, m)
	c := b.Copy()
	wantOK(t, "Arm", b.Arm(1))
	wantLog(t, l, m)
	wantLog(t, l, m)
	wantSame(t, "Record", b, c)
}

func TestRecordsShareNothing(t *testing.T) {
	m := holding(100, 8, 77, 3, 16)
	_, l := opened(t, m)
	a, _ := l.Record(8)
	b, _ := l.Record(8)
	for i := range a {
		a[i] = api.Cell{}
	}
	if !slices.Equal(b, m.records[0]) {
		t.Fatal("two answers share memory")
	}
	b = append(b, api.Cell{})
	wantLog(t, l, m)
}

func TestClearToEachNumber(t *testing.T) {
	for _, m := range []model{
		fresh(40),
		holding(40, 1, 0, 1),
		holding(40, 2, 39, 32, 3),
		holding(100, 8, 77, 1, 16, 17, 2),
		holding(256, top-8, top-90, 1, 2, 3, 4, 5, 6, 7, 32),
	} {
		start, _ := opened(t, m)
		for first := m.first; first <= m.next(); first++ {
			b := start.Copy()
			l := reopened(t, b, m)
			wantOK(t, "Clear", l.Clear(first))
			now := m.cleared(first)
			wantLog(t, l, now)
			all, _ := behind(device(t, start, 1), clearing(t, m, first))
			wantDevice(t, "Clear", b, 1, all)
			wantOK(t, "Crash", b.Crash(nil))
			wantDevice(t, "Clear, cut", b, 1, all)
			reopened(t, b, now)
			// The rest goes as well, one by one.
			for more := first; more <= m.next(); more++ {
				now = now.cleared(more)
				wantOK(t, "Clear", l.Clear(more))
				wantLog(t, l, now)
				reopened(t, b, now)
			}
		}
	}
}

func TestClearToNoNumber(t *testing.T) {
	for _, m := range []model{fresh(40), holding(40, 2, 39, 32, 3), holding(256, top, top, 1, 2, 3, 4, 5, 6, 7, 32)} {
		b, l := opened(t, m)
		c := b.Copy()
		for _, first := range []uint64{0, m.first - 1, m.next() + 1, m.next() + 8, 2 * top, 2*top + 1, 1 << 63, greatest} {
			want(t, "Clear", l.Clear(first), api.ErrArg)
		}
		wantLog(t, l, m)
		wantSame(t, "Clear", b, c)
	}
}

func TestClearSteps(t *testing.T) {
	for _, m := range []model{fresh(40), holding(40, 2, 39, 32, 3), holding(100, 8, 77, 1, 16, 17, 2)} {
		for first := m.first; first <= m.next(); first++ {
			b, _ := opened(t, m)
			clears := func(_ *bench.Bench, l *log.Log) api.Errno { return l.Clear(first) }
			wantDeeds(t, b, clearing(t, m, first), true, clears)
		}
	}
}

// The mark of each Clear is of the next count, and stands in the other sector.
func TestClearGoesToAndFro(t *testing.T) {
	m := fresh(40)
	b, l := opened(t, m)
	for n := range 20 {
		if n%3 > 0 {
			c := row(n%5+1, n)
			_, e := l.Append(c)
			wantOK(t, "Append", e)
			m = m.with(c)
		}
		m = m.cleared(m.next())
		wantOK(t, "Clear", l.Clear(m.first))
		for sector, count := range map[uint64]uint64{m.count % 2: m.count, 1 - m.count%2: m.count - 1} {
			x, e := b.Sure(1, int(sector))
			wantOK(t, "Sure", e)
			got, _, e := mark.Get(x)
			wantOK(t, "mark.Get", e)
			if got != count {
				t.Fatalf("count %d in sector %d, want %d", got, sector, count)
			}
		}
		wantLog(t, l, m)
		if n%4 == 3 {
			l = reopened(t, b, m)
		}
	}
}

// A Clear that fails lets nothing go; the next one writes what it would have.
func TestClearThatFails(t *testing.T) {
	m := holding(100, 8, 77, 1, 16, 17, 2)
	start, _ := opened(t, m)
	for first := m.first; first <= m.next(); first++ {
		for n := 1; n <= 2; n++ {
			for _, picks := range [][]int{nil, {size}, {30}} {
				b := start.Copy()
				l := reopened(t, b, m)
				wantOK(t, "Arm", b.Arm(n))
				want(t, "Clear", l.Clear(first), api.ErrPower)
				wantTold(t, l, m)
				wantOK(t, "Crash", b.Crash(picks))
				wantLog(t, l, m)
				before := device(t, b, 1)
				wantOK(t, "Clear", l.Clear(first))
				all, _ := behind(before, clearing(t, m, first))
				wantDevice(t, "the next Clear", b, 1, all)
				wantLog(t, l, m.cleared(first))
				reopened(t, b, m.cleared(first))
			}
		}
	}
}

// A log whose bench goes on: Live, Free, Id and Ring ask no device.
func TestToldInTheDark(t *testing.T) {
	m := holding(100, 8, 77, 1, 16, 17, 2)
	b, l := opened(t, m)
	b.Arm(1)
	want(t, "Flush", b.Flush(0), api.ErrPower)
	wantTold(t, l, m)
	wantOK(t, "Crash", b.Crash(nil))
	wantLog(t, l, m)
	wantOK(t, "Fail", b.Fail(1))
	wantTold(t, l, m)
}

// The bench that is handed on is the caller's still: what it does is seen by both.
func TestBenchIsTheCallers(t *testing.T) {
	m := fresh(40)
	b, l := opened(t, m)
	c := b.Copy()
	_, e := l.Append(row(1, 1))
	wantOK(t, "Append", e)
	if b.Steps() != c.Steps()+5 {
		t.Fatalf("%d steps", b.Steps()-c.Steps())
	}
	reopened(t, c, m)
	reopened(t, b, m.with(row(1, 1)))
}

// Two logs of one bench know nothing of each other.
func TestTwoLogsOfOneBench(t *testing.T) {
	b := filled(t, least, least+5)
	one, e := log.Lay(b, 0, 1, 40)
	wantOK(t, "Lay", e)
	other, e := log.Lay(b, 1, 2, 45)
	wantOK(t, "Lay", e)
	for n := range 4 {
		_, e := one.Append(row(n+1, n))
		wantOK(t, "Append", e)
		_, e = other.Append(row(n+2, 100+n))
		wantOK(t, "Append", e)
	}
	wantOK(t, "Clear", one.Clear(3))
	wantLive(t, one, 3, 5)
	wantLive(t, other, 1, 5)
	if one.Id() != 1 || other.Id() != 2 || one.Ring() != 40 || other.Ring() != 45 || one.Free() != 31 || other.Free() != 27 {
		t.Fatalf("Id %d %d, Ring %d %d, Free %d %d", one.Id(), other.Id(), one.Ring(), other.Ring(), one.Free(), other.Free())
	}
	wantRecord(t, one, 4, row(4, 3))
	wantRecord(t, other, 4, row(5, 103))
}

// P14.4 (what follows): from here on.

// turn draws numbers that hang on nothing but its start.
type turn uint64

func (r *turn) below(n int) int {
	*r = *r*6364136223846793005 + 1442695040888963407
	return int(uint64(*r)>>33) % n
}

// choices are picks for a cut: each one of what is not sure alone, all but it, torn
// somewhere, all, none; and some that are drawn.
func choices(r *turn, loose int) [][]int {
	l := [][]int{nil, keep()}
	for i := range loose {
		one, rest := make([]int, loose), slices.Repeat([]int{size}, loose)
		one[i], rest[i] = size, 0
		torn := slices.Clone(rest)
		torn[i] = 1 + r.below(size-1)
		l = append(l, one, rest, torn)
	}
	if loose == 1 {
		for at := range size {
			l = append(l, []int{at})
		}
	}
	for range 4 {
		drawn := make([]int, loose)
		for i := range drawn {
			drawn[i] = r.below(size+20) - 10
		}
		l = append(l, drawn)
	}
	return l
}

// loose is how many writes are not sure when the power is cut at a deed.
func loose(deeds []deed, cut int) int {
	many := 0
	for _, d := range deeds[:cut] {
		many++
		if d.sector < 0 {
			many = 0
		}
	}
	return many
}

// isLog tells whether a log is as a model.
func isLog(l *log.Log, m model) bool {
	first, next := l.Live()
	if first != m.first || next != m.next() || l.Free() != m.free() || l.Id() != id || l.Ring() != m.ring {
		return false
	}
	for i, c := range m.records {
		got, e := l.Record(m.first + uint64(i))
		if e != api.OK || !slices.Equal(got, c) {
			return false
		}
	}
	return true
}

// wantCuts says of a call that leads from one model to another: wherever the power
// is cut, opened anew the log is as the one or the other, and the other, where all
// was done; it goes on from there.
func wantCuts(t *testing.T, r *turn, b *bench.Bench, before, after model, deeds []deed, do try) {
	t.Helper()
	for cut := range len(deeds) {
		c := b.Copy()
		l, e := log.Open(c, 1)
		wantOK(t, "Open", e)
		wantOK(t, "Arm", c.Arm(cut+1))
		want(t, "a cut", do(c, l), api.ErrPower)
		for _, picks := range choices(r, loose(deeds, cut)) {
			x := c.Copy()
			wantOK(t, "Crash", x.Crash(picks))
			l, e := log.Open(x, 1)
			wantOK(t, "Open behind a cut", e)
			now := before
			if !isLog(l, before) {
				now = after
			}
			wantLog(t, l, now)
			wantOK(t, "Clear", l.Clear(now.next()))
			_, e = l.Append(row(2, 70))
			wantOK(t, "Append behind a cut", e)
			now = now.cleared(now.next()).with(row(2, 70))
			reopened(t, x, now)
		}
	}
}

func TestCutsOfEachAppend(t *testing.T) {
	r := turn(1)
	for _, m := range []model{fresh(40), holding(40, 6, 35, 1, 2), holding(64, 15, 60, 1, 1, 1, 1, 1, 1, 1)} {
		for _, many := range []int{1, 2, 17, 30} {
			if sectors(many) > m.free() {
				continue
			}
			b, _ := opened(t, m)
			c := row(many, 60)
			wantCuts(t, &r, b, m, m.with(c), appending(t, m, c), appends(t, c))
		}
	}
}

func TestCutsOfEachClear(t *testing.T) {
	r := turn(2)
	for _, m := range []model{fresh(40), holding(40, 6, 35, 1, 2), holding(64, 15, 60, 1, 1, 1, 1, 1, 1, 1, 1)} {
		for first := m.first; first <= m.next(); first++ {
			b, _ := opened(t, m)
			clears := func(_ *bench.Bench, l *log.Log) api.Errno { return l.Clear(first) }
			wantCuts(t, &r, b, m, m.cleared(first), clearing(t, m, first), clears)
		}
	}
}

// A Lay that is cut over an older log leaves no log, the new one, or what the older one had.
func TestCutsOfLay(t *testing.T) {
	r := turn(3)
	old := holding(40, 6, 35, 1, 2)
	start, _ := opened(t, old)
	deeds := laying(t, 40)
	for cut := range len(deeds) {
		c := start.Copy()
		wantOK(t, "Arm", c.Arm(cut+1))
		l, e := log.Lay(c, 1, id, 40)
		wantNoLog(t, "Lay", l, e, api.ErrPower)
		for _, picks := range choices(&r, loose(deeds, cut)) {
			x := c.Copy()
			wantOK(t, "Crash", x.Crash(picks))
			l, e := log.Open(x, 1)
			if e != api.OK {
				wantNoLog(t, "Open", l, e, api.ErrForm)
				continue
			}
			first, next := l.Live()
			switch {
			case first == 6:
				old := old
				old.records = old.records[:next-6]
				wantLog(t, l, old)
			default:
				wantLog(t, l, fresh(40))
			}
		}
	}
}

// step draws what is done next: the models of it, its steps, and the call.
func step(t *testing.T, r *turn, m model, n int) (model, []deed, try) {
	c := row(1+r.below(7), n)
	if len(m.records) < slots && sectors(len(c)) <= m.free() && r.below(4) > 0 {
		return m.with(c), appending(t, m, c), appends(t, c)
	}
	first := m.first + uint64(r.below(len(m.records)+1))
	clears := func(_ *bench.Bench, l *log.Log) api.Errno { return l.Clear(first) }
	return m.cleared(first), clearing(t, m, first), clears
}

// Logs that go on and on, cut now and then, opened anew, and held against a model.
func TestLongLogs(t *testing.T) {
	for seed := range 6 {
		r := turn(100 + seed)
		m := fresh(40 + seed)
		b := filled(t, 3, ringAt+m.ring, 4)
		l, e := log.Lay(b, 1, id, m.ring)
		wantOK(t, "Lay", e)
		for n := range 400 {
			next, deeds, do := step(t, &r, m, n)
			if r.below(3) > 0 {
				wantOK(t, "a step", do(b, l))
				m = next
				wantLog(t, l, m)
				continue
			}
			cut := r.below(len(deeds))
			wantOK(t, "Arm", b.Arm(cut+1))
			want(t, "a cut", do(b, l), api.ErrPower)
			all := choices(&r, loose(deeds, cut))
			wantOK(t, "Crash", b.Crash(all[r.below(len(all))]))
			l, e = log.Open(b, 1)
			wantOK(t, "Open", e)
			// A mark of the model's may be on either side: what it tells is that of one.
			if !isLog(l, m) {
				m = next
			} else if sector, e := b.Read(1, int(next.count%2)); e == api.OK {
				if count, _, e := mark.Get(sector); e == api.OK {
					m.count = max(m.count, count)
				}
			}
			wantLog(t, l, m)
		}
	}
}

// The rules that hold everywhere: answers again are the same.
func TestAnswersAgain(t *testing.T) {
	m := holding(100, 8, 77, 1, 16, 17, 2)
	b, l := opened(t, m)
	other := reopened(t, b, m)
	c := b.Copy()
	twin := reopened(t, c, m)
	for n := range 3 {
		x, e := l.Append(row(2, n))
		y, f := twin.Append(row(2, n))
		if x != y || e != f {
			t.Fatalf("Append = %d %d, and %d %d", x, e, y, f)
		}
		wantSame(t, "Append", b, c)
	}
	wantTold(t, other, m)
}
