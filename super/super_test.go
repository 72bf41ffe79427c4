package super_test

import (
	"bytes"
	"encoding/binary"
	"hash/crc32"
	"math"
	"testing"

	"ashlar/api"
	"ashlar/super"
)

// The document's numbers, written out, so that a part that stands elsewhere is told.
const (
	size      = 64
	maxBody   = 44
	bodyAt    = 8
	idAt      = 8
	membersAt = 16
	stripesAt = 17
	ringAt    = 19
	selfAt    = 21
	statesAt  = 22
	cursorAt  = 26
	goneAt    = 28
	restAt    = 29
	sumAt     = 52
	againAt   = 56
	lastEvent = 4611686018427387904
	greatest  = 1<<64 - 1
)

const (
	inSync  = 0
	lost    = 1
	healing = 2
	noState = 3
)

// events are those that a superblock may have.
func events() []uint64 {
	return []uint64{1, 2, 3, 255, 256, 257, 1<<32 - 1, 1 << 32, 0x0102030405060708, 1 << 61, lastEvent - 1, lastEvent}
}

// noEvents are numbers that are no events.
func noEvents() []uint64 {
	return []uint64{0, lastEvent + 1, lastEvent + 2, 1<<63 - 1, 1 << 63, greatest - 1, greatest}
}

// plain is a superblock of all in sync: of the chapter's example.
func plain() api.Super {
	return api.Super{Id: 9, Self: 1, Roster: api.Roster{Geo: api.Geo{Members: 3, Stripes: 4, Ring: 40}}}
}

// full is a superblock in which each part of the body has its own, no part of which is 0.
func full() api.Super {
	return api.Super{Id: 0xf1e2d3c4b5a69788, Self: 13, Roster: api.Roster{
		Geo:    api.Geo{Members: 16, Stripes: 61, Ring: 251},
		States: [16]uint8{1, 0, 0, 1, 1, 1, 0, 1, 2, 1, 0, 1, 1, 0, 1, 1},
		Cursor: 47,
		Gone:   true,
	}}
}

// geometries are those that may be, with the least and the greatest of each.
func geometries() []api.Geo {
	var l []api.Geo
	for _, members := range []int{3, 4, 5, 15, 16} {
		for _, stripes := range []int{1, 2, 4, 63, 64} {
			for _, ring := range []int{40, 41, 255, 256} {
				l = append(l, api.Geo{Members: members, Stripes: stripes, Ring: ring})
			}
		}
	}
	return l
}

// noGeometries are some that may not be, and some that would be in fewer bytes.
func noGeometries() []api.Geo {
	var l []api.Geo
	for _, n := range []int{math.MinInt, -1, 0, 2, 17, 256 + 3, 65536 + 3, math.MaxInt} {
		l = append(l, api.Geo{Members: n, Stripes: 4, Ring: 40})
	}
	for _, n := range []int{math.MinInt, -1, 0, 65, 256 + 4, 65536 + 4, math.MaxInt} {
		l = append(l, api.Geo{Members: 3, Stripes: n, Ring: 40})
	}
	for _, n := range []int{math.MinInt, -1, 0, 39, 257, 65536 + 40, math.MaxInt} {
		l = append(l, api.Geo{Members: 3, Stripes: 4, Ring: n})
	}
	return append(l, api.Geo{})
}

// supers are superblocks that may be: of each geometry each self, each state of
// each member, and each edge of the cursor.
func supers() []api.Super {
	l := []api.Super{plain(), full()}
	for i, g := range geometries() {
		for self := range g.Members {
			s := api.Super{Id: uint64(i + 1), Self: self, Roster: api.Roster{Geo: g, Gone: i%2 == 0}}
			l = append(l, s)
			s.Roster.States[self] = lost
			l = append(l, s)
			for _, cursor := range []int{0, 1, g.Stripes / 2, g.Stripes - 1} {
				s.Roster.States[self] = healing
				s.Roster.Cursor = min(cursor, g.Stripes-1)
				l = append(l, s)
			}
			for m := range g.Members {
				if m != self {
					s.Roster.States[m] = lost
				}
			}
			s.Id = greatest - uint64(i)
			l = append(l, s)
		}
	}
	return l
}

// only answers states of which some members have one, and all others are in sync.
func only(state uint8, members ...int) (l [16]uint8) {
	for _, m := range members {
		l[m] = state
	}
	return l
}

// changed answers a superblock that was changed.
func changed(s api.Super, by func(s *api.Super)) api.Super {
	by(&s)
	return s
}

// noSupers are superblocks that may not be, each for one cause.
func noSupers() []api.Super {
	l := []api.Super{{}, {Id: 9}}
	change := func(s api.Super, by func(s *api.Super)) { l = append(l, changed(s, by)) }
	for _, s := range []api.Super{plain(), full()} {
		members, stripes := s.Roster.Geo.Members, s.Roster.Geo.Stripes
		change(s, func(s *api.Super) { s.Id = 0 })
		for _, self := range []int{math.MinInt, -256, -1, members, members + 1, 256, 257, math.MaxInt} {
			change(s, func(s *api.Super) { s.Self = self })
		}
		for _, g := range noGeometries() {
			change(s, func(s *api.Super) { s.Roster.Geo = g })
		}
		for m := range members {
			for _, state := range []uint8{noState, 4, 5, 127, 128, 129, 130, 254, 255} {
				change(s, func(s *api.Super) { s.Roster.States[m] = state })
			}
		}
		for m := members; m < 16; m++ {
			for _, state := range []uint8{lost, healing, noState, 4, 255} {
				change(s, func(s *api.Super) { s.Roster.States[m] = state })
			}
		}
		for _, cursor := range []int{math.MinInt, -65536, -1, stripes, stripes + 1, 65536, 65536 + 1, math.MaxInt} {
			change(s, func(s *api.Super) { s.Roster.Cursor = cursor })
			change(s, func(s *api.Super) {
				s.Roster.States[0], s.Roster.States[8] = healing, inSync
				s.Roster.Cursor = cursor
			})
		}
		for _, cursor := range []int{1, 2, stripes - 1} {
			change(s, func(s *api.Super) {
				s.Roster.States = [16]uint8{lost}
				s.Roster.Cursor = cursor
			})
			change(s, func(s *api.Super) {
				s.Roster.States = [16]uint8{}
				s.Roster.Cursor = cursor
			})
		}
		for a := range members {
			for b := range a {
				for _, cursor := range []int{0, 1} {
					change(s, func(s *api.Super) {
						s.Roster.States = only(healing, a, b)
						s.Roster.Cursor = cursor
					})
				}
			}
		}
	}
	return l
}

// summed answers a sector with the sum of what stands ahead of it.
func summed(b api.Block) api.Block {
	sum := crc32.Checksum(b[:sumAt], crc32.MakeTable(crc32.Castagnoli))
	binary.LittleEndian.PutUint32(b[sumAt:], sum)
	return b
}

// sealed answers a sector of a number and a body, with the right sum.
func sealed(number uint64, body []byte) api.Block {
	var b api.Block
	binary.LittleEndian.PutUint64(b[:], number)
	copy(b[bodyAt:sumAt], body)
	binary.LittleEndian.PutUint64(b[againAt:], number)
	return summed(b)
}

// laid answers the sector of an event and a superblock, whether they may be or not.
func laid(event uint64, s api.Super) api.Block {
	r := s.Roster
	var b []byte
	b = binary.LittleEndian.AppendUint64(b, s.Id)
	b = append(b, byte(r.Geo.Members))
	b = binary.LittleEndian.AppendUint16(b, uint16(r.Geo.Stripes))
	b = binary.LittleEndian.AppendUint16(b, uint16(r.Geo.Ring))
	b = append(b, byte(s.Self))
	for m := 0; m < 16; m += 4 {
		b = append(b, r.States[m]|r.States[m+1]<<2|r.States[m+2]<<4|r.States[m+3]<<6)
	}
	b = binary.LittleEndian.AppendUint16(b, uint16(r.Cursor))
	if r.Gone {
		b = append(b, 1)
	}
	return sealed(event, b)
}

// against answers a sector with a byte laid against one of its own.
func against(b api.Block, at int, by byte) api.Block {
	b[at] ^= by
	return b
}

// with answers a sector with another byte at a place, and the sum made right.
func with(b api.Block, at int, to byte) api.Block {
	b[at] = to
	return summed(b)
}

// torn answers a sector of which the first bytes were written anew.
func torn(old, now api.Block, many int) api.Block {
	copy(old[:many], now[:many])
	return old
}

func put(t *testing.T, event uint64, s api.Super) api.Block {
	t.Helper()
	b, e := super.Put(event, s)
	if e != api.OK {
		t.Fatalf("Put(%d, %+v): %v", event, s, e)
	}
	return b
}

func wantPut(t *testing.T, event uint64, s api.Super, want api.Block) {
	t.Helper()
	if b, e := super.Put(event, s); b != want || e != api.OK {
		t.Errorf("Put(%d, %+v) = %x, %v; want %x", event, s, b, e, want)
	}
}

func wantNoPut(t *testing.T, event uint64, s api.Super) {
	t.Helper()
	if b, e := super.Put(event, s); b != (api.Block{}) || e != api.ErrArg {
		t.Errorf("Put(%d, %+v) = %x, %v; want 0s, ErrArg", event, s, b, e)
	}
}

func wantMay(t *testing.T, s api.Super, want bool) {
	t.Helper()
	if got := super.May(s); got != want {
		t.Errorf("May(%+v) = %v; want %v", s, got, want)
	}
}

func wantGet(t *testing.T, b api.Block, event uint64, s api.Super) {
	t.Helper()
	if n, got, e := super.Get(b); n != event || got != s || e != api.OK {
		t.Errorf("Get(%x) = %d, %+v, %v; want %d, %+v", b, n, got, e, event, s)
	}
}

func wantNoGet(t *testing.T, b api.Block, want api.Errno) {
	t.Helper()
	if n, s, e := super.Get(b); n != 0 || s != (api.Super{}) || e != want {
		t.Errorf("Get(%x) = %d, %+v, %v; want 0, none, %v", b, n, s, e, want)
	}
}

// wantNewest asks Newest, and Slot too: the newest is the sector which, of that event and superblock.
func wantNewest(t *testing.T, a, b api.Block, which int, event uint64, s api.Super) {
	t.Helper()
	if n, got, e := super.Newest(a, b); n != event || got != s || e != api.OK {
		t.Errorf("Newest(%x, %x) = %d, %+v, %v; want %d, %+v", a, b, n, got, e, event, s)
	}
	if slot := super.Slot(a, b); slot != 1-which {
		t.Errorf("Slot(%x, %x) = %d; want %d", a, b, slot, 1-which)
	}
}

func wantNoNewest(t *testing.T, a, b api.Block) {
	t.Helper()
	if n, s, e := super.Newest(a, b); n != 0 || s != (api.Super{}) || e != api.ErrNone {
		t.Errorf("Newest(%x, %x) = %d, %+v, %v; want 0, none, ErrNone", a, b, n, s, e)
	}
	if slot := super.Slot(a, b); slot != 0 {
		t.Errorf("Slot(%x, %x) = %d; want 0", a, b, slot)
	}
}

// refused are sectors that Get doesn't take, of each kind; their events are greater than 7.
func refused() []api.Block {
	whole := laid(1000, full())
	l := []api.Block{{}, {1}, sealed(1000, nil), sealed(1000, bytes.Repeat([]byte{0xff}, maxBody))}
	for _, event := range noEvents() {
		l = append(l, laid(event, full()))
	}
	for at := range size {
		l = append(l, against(whole, at, 0x40))
	}
	for at := restAt; at < sumAt; at++ {
		l = append(l, with(whole, at, 1))
	}
	return append(l, with(whole, goneAt, 2), with(whole, membersAt, 2), laid(1000, api.Super{}))
}

// The chapter's examples.

func TestExamples(t *testing.T) {
	wantNoPut(t, 0, plain())
	wantNoPut(t, 1, api.Super{})
	wantNoGet(t, api.Block{}, api.ErrForm)
	b := put(t, 3, api.Super{Id: 9, Self: 1, Roster: api.Roster{Geo: api.Geo{Members: 3, Stripes: 4, Ring: 40}}})
	if event, s, e := super.Get(b); event != 3 || s.Self != 1 || e != api.OK {
		t.Errorf("Get = %d, %+v, %v; want 3, Self 1", event, s, e)
	}
	for i, slot := range []int{super.Slot(b, api.Block{}), super.Slot(api.Block{}, b), super.Slot(api.Block{}, api.Block{})} {
		if want := []int{1, 0, 0}[i]; slot != want {
			t.Errorf("%d: Slot = %d; want %d", i, slot, want)
		}
	}
}

// P8.1 (May, Put, Get): from here on.

func TestMay(t *testing.T) {
	for _, s := range supers() {
		wantMay(t, s, true)
	}
	for _, s := range noSupers() {
		wantMay(t, s, false)
	}
}

func TestMayOfEachId(t *testing.T) {
	for _, id := range []uint64{1, 2, 255, 256, 1<<63 - 1, 1 << 63, lastEvent, lastEvent + 1, greatest} {
		wantMay(t, changed(plain(), func(s *api.Super) { s.Id = id }), true)
	}
	wantMay(t, changed(plain(), func(s *api.Super) { s.Id = 0 }), false)
}

// Each geometry within and without: the edges of members, stripes and rings.
func TestMayOfEachGeometry(t *testing.T) {
	for members := -1; members <= 20; members++ {
		for _, stripes := range []int{-1, 0, 1, 2, 63, 64, 65} {
			for _, ring := range []int{0, 39, 40, 41, 255, 256, 257} {
				s := api.Super{Id: 1, Roster: api.Roster{Geo: api.Geo{Members: members, Stripes: stripes, Ring: ring}}}
				want := members >= 3 && members <= 16 && stripes >= 1 && stripes <= 64 && ring >= 40 && ring <= 256
				wantMay(t, s, want)
			}
		}
	}
}

func TestMayOfEachSelf(t *testing.T) {
	for members := 3; members <= 16; members++ {
		for self := -3; self <= 20; self++ {
			s := api.Super{Id: 1, Self: self, Roster: api.Roster{Geo: api.Geo{Members: members, Stripes: 1, Ring: 40}}}
			wantMay(t, s, self >= 0 && self < members)
		}
	}
}

// Each state of each of the 16, of arrays of as many members as may be: what is no member is in sync.
func TestMayOfEachState(t *testing.T) {
	for members := 3; members <= 16; members++ {
		for m := range 16 {
			for state := range 256 {
				s := api.Super{Id: 1, Roster: api.Roster{Geo: api.Geo{Members: members, Stripes: 3, Ring: 40}}}
				s.Roster.States[m] = uint8(state)
				wantMay(t, s, state == inSync || m < members && state <= healing)
			}
		}
	}
}

// None, one and two that heal, or all; however many others are lost.
func TestMayOfSomeThatHeal(t *testing.T) {
	for many := range 17 {
		for _, others := range []uint8{inSync, lost} {
			s := changed(full(), func(s *api.Super) { s.Roster.Cursor = 0 })
			for m := range 16 {
				s.Roster.States[m] = others
				if m >= 16-many {
					s.Roster.States[m] = healing
				}
			}
			wantMay(t, s, many <= 1)
		}
	}
}

// Each cursor, with one that heals and with none.
func TestMayOfEachCursor(t *testing.T) {
	for _, stripes := range []int{1, 2, 4, 63, 64} {
		for cursor := -2; cursor <= 70; cursor++ {
			s := api.Super{Id: 1, Self: 2, Roster: api.Roster{Geo: api.Geo{Members: 3, Stripes: stripes, Ring: 40}, Cursor: cursor}}
			for _, gone := range []bool{false, true} {
				s.Roster.Gone = gone
				s.Roster.States = [16]uint8{}
				wantMay(t, s, cursor == 0)
				s.Roster.States = [16]uint8{lost, lost, lost}
				wantMay(t, s, cursor == 0)
				s.Roster.States = [16]uint8{inSync, lost, healing}
				wantMay(t, s, cursor >= 0 && cursor < stripes)
				s.Roster.States = [16]uint8{healing}
				wantMay(t, s, cursor >= 0 && cursor < stripes)
			}
		}
	}
}

// A sector written out by hand: where each part stands, the lowest byte first.
func TestPutByHand(t *testing.T) {
	s := api.Super{Id: 0x0102030405060708, Self: 4, Roster: api.Roster{
		Geo:    api.Geo{Members: 14, Stripes: 64, Ring: 256},
		States: [16]uint8{1, 2, 0, 1, 0, 1, 1, 0, 1, 1, 1, 1, 0, 1, 0, 0},
		Cursor: 63,
		Gone:   true,
	}}
	want := api.Block{
		0x18, 0x17, 0x16, 0x15, 0x14, 0x13, 0x12, 0x11,
		0x08, 0x07, 0x06, 0x05, 0x04, 0x03, 0x02, 0x01,
		14,
		64, 0,
		0, 1,
		4,
		0b01001001, 0b00010100, 0b01010101, 0b00000100,
		63, 0,
		1,
		56: 0x18, 0x17, 0x16, 0x15, 0x14, 0x13, 0x12, 0x11,
	}
	want = summed(want)
	wantPut(t, 0x1112131415161718, s, want)
	wantGet(t, want, 0x1112131415161718, s)
}

func TestPutOfEachSuper(t *testing.T) {
	l := events()
	for i, s := range supers() {
		event := l[i%len(l)]
		wantPut(t, event, s, laid(event, s))
	}
}

// Each part by itself, of superblocks in which it alone differs.
func TestWherePartsStand(t *testing.T) {
	for _, c := range []struct {
		what     string
		from, to int
		by       func(s *api.Super)
	}{
		{"Id", idAt, membersAt, func(s *api.Super) { s.Id = ^s.Id }},
		{"Members", membersAt, stripesAt, func(s *api.Super) { s.Roster.Geo.Members = 15; s.Roster.States[15] = inSync }},
		{"Stripes", stripesAt, ringAt, func(s *api.Super) { s.Roster.Geo.Stripes = 64 }},
		{"Ring", ringAt, selfAt, func(s *api.Super) { s.Roster.Geo.Ring = 256 }},
		{"Self", selfAt, statesAt, func(s *api.Super) { s.Self = 0 }},
		{"States", statesAt, cursorAt, func(s *api.Super) { s.Roster.States = [16]uint8{10: healing} }},
		{"Cursor", cursorAt, goneAt, func(s *api.Super) { s.Roster.Cursor = 0 }},
		{"Gone", goneAt, restAt, func(s *api.Super) { s.Roster.Gone = false }},
	} {
		was := changed(full(), func(s *api.Super) { s.Roster.States[15] = inSync })
		a, b := put(t, 5, was), put(t, 5, changed(was, c.by))
		if a == b {
			t.Errorf("%s: the sectors are the same", c.what)
		}
		for at := range sumAt {
			if inside := at >= c.from && at < c.to; !inside && a[at] != b[at] {
				t.Errorf("%s: byte %d is %02x, then %02x", c.what, at, a[at], b[at])
			}
		}
	}
}

// The state of each member by itself: in which byte, in which of its bits.
func TestWhereStatesStand(t *testing.T) {
	none := put(t, 5, changed(full(), func(s *api.Super) { s.Roster.States = [16]uint8{}; s.Roster.Cursor = 0 }))
	for m := range 16 {
		for _, state := range []uint8{lost, healing} {
			b := put(t, 5, changed(full(), func(s *api.Super) { s.Roster.States = only(state, m); s.Roster.Cursor = 0 }))
			want := none
			want[statesAt+m/4] = state << (m % 4 * 2)
			if want = summed(want); b != want {
				t.Errorf("member %d of state %d: %x; want %x", m, state, b, want)
			}
		}
	}
}

// Behind the byte of Gone all is 0, up to the sum.
func TestRestOfBodyIsZero(t *testing.T) {
	for _, s := range supers() {
		b := put(t, 5, s)
		if !bytes.Equal(b[restAt:sumAt], make([]byte, sumAt-restAt)) {
			t.Errorf("Put(5, %+v): behind the byte of Gone stands %x", s, b[restAt:sumAt])
		}
	}
}

func TestPutOfEachEvent(t *testing.T) {
	for _, s := range []api.Super{plain(), full()} {
		for _, event := range events() {
			wantPut(t, event, s, laid(event, s))
		}
		for _, event := range noEvents() {
			wantNoPut(t, event, s)
		}
	}
}

func TestPutOfNoSuper(t *testing.T) {
	for _, s := range noSupers() {
		for _, event := range []uint64{0, 1, 5, lastEvent, lastEvent + 1, greatest} {
			wantNoPut(t, event, s)
		}
	}
}

func TestGetOfEachSuper(t *testing.T) {
	l := events()
	for i, s := range supers() {
		event := l[i%len(l)]
		wantGet(t, laid(event, s), event, s)
	}
}

func TestGetOfEachEvent(t *testing.T) {
	for _, s := range []api.Super{plain(), full()} {
		for _, event := range events() {
			wantGet(t, laid(event, s), event, s)
		}
		for _, event := range noEvents() {
			wantNoGet(t, laid(event, s), api.ErrForm)
		}
	}
}

// Bodies of superblocks that may not be, but would fit into a body's bytes.
func TestGetOfNoSuper(t *testing.T) {
	fits := func(s api.Super) bool {
		for _, state := range s.Roster.States {
			if state > noState {
				return false
			}
		}
		g := s.Roster.Geo
		bits8, bits16 := s.Self|g.Members, g.Stripes|g.Ring|s.Roster.Cursor
		return bits8>>8 == 0 && bits16>>16 == 0
	}
	many := 0
	for _, s := range noSupers() {
		if fits(s) {
			wantNoGet(t, laid(5, s), api.ErrForm)
			many++
		}
	}
	if many < 100 {
		t.Errorf("only %d were asked", many)
	}
}

// Each of the bytes of Members, Stripes, Ring, Self, Cursor and Gone that may be, and each that may not.
func TestGetOfEachByte(t *testing.T) {
	for to := range 256 {
		n := byte(to)
		wantByte := func(b api.Block, at int, may bool, by func(s *api.Super)) {
			t.Helper()
			if may {
				_, s, _ := super.Get(b)
				wantGet(t, with(b, at, n), 7, changed(s, by))
			} else {
				wantNoGet(t, with(b, at, n), api.ErrForm)
			}
		}
		a := laid(7, plain())
		wantByte(a, membersAt, to >= 3 && to <= 16, func(s *api.Super) { s.Roster.Geo.Members = to })
		wantByte(a, stripesAt, to >= 1 && to <= 64, func(s *api.Super) { s.Roster.Geo.Stripes = to })
		wantByte(a, stripesAt+1, to == 0, func(s *api.Super) {})
		wantByte(a, ringAt, to >= 40, func(s *api.Super) { s.Roster.Geo.Ring = to })
		wantByte(a, ringAt+1, to == 0, func(s *api.Super) {})
		wantByte(a, selfAt, to < 3, func(s *api.Super) { s.Self = to })
		wantByte(a, cursorAt, to == 0, func(s *api.Super) {})
		wantByte(a, cursorAt+1, to == 0, func(s *api.Super) {})
		wantByte(a, goneAt, to <= 1, func(s *api.Super) { s.Roster.Gone = to == 1 })
		b := laid(7, full())
		wantByte(b, cursorAt, to < 61, func(s *api.Super) { s.Roster.Cursor = to })
		wantByte(b, cursorAt+1, to == 0, func(s *api.Super) {})
		wantByte(b, selfAt, to < 16, func(s *api.Super) { s.Self = to })
		wantByte(b, membersAt, to == 16, func(s *api.Super) {})
		wantByte(b, goneAt, to <= 1, func(s *api.Super) { s.Roster.Gone = to == 1 })
		c := laid(7, changed(plain(), func(s *api.Super) { s.Roster.Geo.Ring = 256 }))
		wantByte(c, ringAt, to == 0, func(s *api.Super) {})
		wantByte(c, ringAt+1, to == 1, func(s *api.Super) {})
		for at := range 8 {
			wantByte(a, idAt+at, at > 0 || to != 0, func(s *api.Super) { s.Id = s.Id&^(0xff<<(8*at)) | uint64(n)<<(8*at) })
		}
	}
}

// Each byte of states, of arrays of 3 and of 16 members.
func TestGetOfEachByteOfStates(t *testing.T) {
	for _, members := range []int{3, 6, 16} {
		was := changed(plain(), func(s *api.Super) { s.Roster.Geo.Members = members })
		for at := range 4 {
			for to := range 256 {
				s, may, heal := was, true, 0
				for i := range 4 {
					m, state := 4*at+i, uint8(to>>(2*i)&3)
					s.Roster.States[m] = state
					may = may && state != noState && (m < members || state == inSync)
					if state == healing {
						heal++
					}
				}
				b := with(laid(7, was), statesAt+at, byte(to))
				if may && heal <= 1 {
					wantGet(t, b, 7, s)
				} else {
					wantNoGet(t, b, api.ErrForm)
				}
			}
		}
	}
}

// States of what is no member.
func TestGetOfStatesOfNoMember(t *testing.T) {
	for members := 3; members < 16; members++ {
		for m := members; m < 16; m++ {
			for _, state := range []uint8{lost, healing, noState} {
				s := changed(plain(), func(s *api.Super) {
					s.Roster.Geo.Members = members
					s.Roster.States[m] = state
				})
				wantNoGet(t, laid(7, s), api.ErrForm)
			}
		}
	}
}

// Bytes behind the superblock that are not 0: each one, each bit.
func TestGetOfRestThatIsNotZero(t *testing.T) {
	for _, s := range []api.Super{plain(), full()} {
		for at := restAt; at < sumAt; at++ {
			for bit := range 8 {
				wantNoGet(t, with(laid(7, s), at, 1<<bit), api.ErrForm)
			}
		}
	}
}

// Each byte of a body changed by itself, in each way, with the sum made right:
// another superblock that may be, and has that very body, or none.
func TestGetOfEachChange(t *testing.T) {
	for _, whole := range []api.Block{laid(7, plain()), laid(7, full())} {
		for at := bodyAt; at < sumAt; at++ {
			for by := 1; by < 256; by++ {
				b := summed(against(whole, at, byte(by)))
				event, s, e := super.Get(b)
				if e == api.OK && event == 7 && super.May(s) && laid(7, s) == b {
					continue
				}
				wantNoGet(t, b, api.ErrForm)
			}
		}
	}
}

// The numbers are told ahead of the sum, the sum ahead of a body that is none.
func TestGetOfSealErrors(t *testing.T) {
	for _, whole := range []api.Block{laid(7, plain()), laid(lastEvent, full()), laid(greatest, full()), sealed(7, nil), sealed(7, bytes.Repeat([]byte{3}, maxBody)), laid(7, api.Super{})} {
		for at := range size {
			want := api.ErrSum
			if at < bodyAt || at >= againAt {
				want = api.ErrForm
			}
			wantNoGet(t, against(whole, at, 0x20), want)
		}
	}
	wantNoGet(t, sealed(0, nil), api.ErrForm)
	wantNoGet(t, laid(0, full()), api.ErrForm)
	wantNoGet(t, against(laid(0, full()), goneAt, 1), api.ErrForm)
}

// P8.2 (Newest, Slot, Rosters): from here on.

func TestNewestOfTwo(t *testing.T) {
	for i, n := range events() {
		for k, m := range events() {
			s, u := plain(), full()
			if (i+k)%2 == 0 {
				s, u = u, s
			}
			a, b := laid(n, s), laid(m, u)
			if m > n {
				wantNewest(t, a, b, 1, m, u)
			} else {
				wantNewest(t, a, b, 0, n, s)
			}
		}
	}
}

// Of the same event on both it is the first one, whatever stands there.
func TestNewestOfTheSameEvent(t *testing.T) {
	for _, n := range events() {
		a, b := laid(n, plain()), laid(n, full())
		wantNewest(t, a, b, 0, n, plain())
		wantNewest(t, b, a, 0, n, full())
		wantNewest(t, a, a, 0, n, plain())
	}
}

// What is refused is never the newest, whatever event it has.
func TestNewestOfOneRefused(t *testing.T) {
	for _, n := range []uint64{1, 7, lastEvent} {
		a := laid(n, plain())
		for _, b := range refused() {
			wantNewest(t, a, b, 0, n, plain())
			wantNewest(t, b, a, 1, n, plain())
		}
	}
}

func TestNewestOfTwoRefused(t *testing.T) {
	for _, a := range refused() {
		for _, b := range refused() {
			wantNoNewest(t, a, b)
		}
	}
}

func TestRosters(t *testing.T) {
	l := []api.Roster{{}, {Cursor: -1}}
	for _, was := range []api.Roster{plain().Roster, full().Roster} {
		add := func(by func(r *api.Roster)) {
			r := was
			by(&r)
			l = append(l, r)
		}
		add(func(r *api.Roster) {})
		add(func(r *api.Roster) { r.Geo.Members-- })
		add(func(r *api.Roster) { r.Geo.Stripes++ })
		add(func(r *api.Roster) { r.Geo.Ring++ })
		add(func(r *api.Roster) { r.Geo.Ring += 1 << 16 })
		add(func(r *api.Roster) { r.Cursor++ })
		add(func(r *api.Roster) { r.Cursor += 1 << 16 })
		add(func(r *api.Roster) { r.Gone = !r.Gone })
		for m := range 16 {
			add(func(r *api.Roster) { r.States[m] ^= 1 })
			add(func(r *api.Roster) { r.States[m] ^= 4 })
		}
	}
	for i, a := range l {
		for k, b := range l {
			if got := super.Rosters(a, b); got != (i == k) {
				t.Errorf("Rosters(%+v, %+v) = %v", a, b, got)
			}
		}
	}
}

// P8.3 (what follows): from here on.

func TestPutThenGet(t *testing.T) {
	l := events()
	for i, s := range supers() {
		event := l[i%len(l)]
		wantGet(t, put(t, event, s), event, s)
	}
}

// What is got is put as the same sector: of all sectors that differ from one in a byte.
func TestGetThenPut(t *testing.T) {
	many := 0
	for _, whole := range []api.Block{laid(7, plain()), laid(lastEvent, full())} {
		for at := bodyAt; at < sumAt; at++ {
			for by := range 256 {
				b := summed(against(whole, at, byte(by)))
				if event, s, e := super.Get(b); e == api.OK {
					wantPut(t, event, s, b)
					many++
				}
			}
		}
	}
	if many < 2000 {
		t.Errorf("only %d were got", many)
	}
}

// wantTorn asks of two sectors that wherever the next superblock, of a greater
// event, is torn in the sector that Slot tells, the newest is there, or that one.
func wantTorn(t *testing.T, a, b api.Block, next uint64, now api.Super) {
	t.Helper()
	event, s, _ := super.Newest(a, b)
	written := put(t, next, now)
	for many := range size + 1 {
		both := [2]api.Block{a, b}
		at := super.Slot(a, b)
		both[at] = torn(both[at], written, many)
		n, got, e := super.Newest(both[0], both[1])
		switch {
		case both[at] == written:
			wantNewest(t, both[0], both[1], at, next, now)
		case event == 0:
			wantNoNewest(t, both[0], both[1])
		case n != event || got != s || e != api.OK:
			t.Errorf("%d bytes of %d over %d: Newest = %d, %+v, %v", many, next, event, n, got, e)
		}
	}
}

func TestTornOverTheElder(t *testing.T) {
	for _, old := range []uint64{1, 2, 255, 256, 0x0102030405060706, lastEvent - 2} {
		a, b := put(t, old, full()), put(t, old+1, plain())
		for _, now := range []api.Super{plain(), full()} {
			for _, next := range []uint64{old + 2, lastEvent} {
				wantTorn(t, a, b, next, now)
				wantTorn(t, b, a, next, now)
			}
		}
	}
}

func TestTornOverNone(t *testing.T) {
	for _, next := range []uint64{1, 2, 256, 0x0102030405060708, lastEvent} {
		wantTorn(t, api.Block{}, api.Block{}, next, full())
	}
	for _, next := range []uint64{2, 256, 0x0102030405060708, lastEvent} {
		first := put(t, 1, plain())
		wantTorn(t, first, api.Block{}, next, full())
		wantTorn(t, api.Block{}, first, next, full())
	}
}

// Superblocks of rising events, each one where Slot says: the newest is always
// the last one, and the one ahead of it is still there.
func TestSlotsInTurn(t *testing.T) {
	var both [2]api.Block
	for event := uint64(1); event <= 300; event++ {
		s := plain()
		s.Id = event * 3
		at := super.Slot(both[0], both[1])
		if want := int(event-1) % 2; at != want {
			t.Fatalf("event %d: Slot = %d; want %d", event, at, want)
		}
		both[at] = put(t, event, s)
		wantNewest(t, both[0], both[1], at, event, s)
		if event > 1 {
			s.Id -= 3
			wantGet(t, both[1-at], event-1, s)
		}
	}
}

// The rules that hold everywhere: from here on.

// What is handed in and what is answered are values: a change of them changes no other answer.
func TestArgumentsStay(t *testing.T) {
	s := full()
	kept := s
	b := put(t, 5, s)
	sector := b
	super.May(s)
	_, got, _ := super.Get(b)
	super.Newest(b, b)
	super.Slot(b, b)
	super.Rosters(s.Roster, got.Roster)
	if s != kept || b != sector {
		t.Error("what was handed in is another one")
	}
	got.Roster.States[3] = noState
	s.Roster.States[4] = noState
	clear(b[:])
	wantGet(t, sector, 5, kept)
	wantPut(t, 5, kept, sector)
}

// What a call answers hangs on what it was given alone.
func TestAnswersAgain(t *testing.T) {
	b := put(t, 9, full())
	super.Put(10, plain())
	super.Put(0, api.Super{})
	super.Get(api.Block{})
	super.Newest(laid(11, plain()), b)
	super.Slot(b, api.Block{})
	wantPut(t, 9, full(), b)
	wantGet(t, b, 9, full())
}
