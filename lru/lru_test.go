package lru_test

import (
	"math"
	"slices"
	"strconv"
	"testing"

	"ashlar/api"
	"ashlar/lru"
)

// The document's number, written out, so that a limit that is asked wrongly is told.
const maxRoom = 64

// rooms are all that may be.
func rooms() []int { return upTo(1, maxRoom) }

// noRooms are some that may not be, some of which would be in fewer bytes.
func noRooms() []int {
	return []int{
		math.MinInt, math.MinInt + 1, math.MinInt + 8, math.MinInt32, -1<<32 + 1, -65536 + 1, -256, -255, -192, -64, -63, -2, -1, 0,
		maxRoom + 1, maxRoom + 2, 2 * maxRoom, 255, 256, 257, 320, 65535, 65536, 65537, 1 << 31, 1 << 32, 1<<32 + 1, 1<<32 + 64,
		math.MaxInt32, math.MaxInt - 1, math.MaxInt,
	}
}

// farKeys are those next to where keys end, and some that would be the same in fewer bytes.
func farKeys() []int {
	return []int{
		math.MinInt, math.MinInt + 1, math.MinInt + 2, math.MinInt32, -1<<32 - 1, -1 << 32, -1<<32 + 1, -65536, -257, -256, -255, -2, -1,
		0, 1, 2, 255, 256, 257, 65536, 65537, 1 << 31, 1<<32 - 1, 1 << 32, 1<<32 + 1, 1<<53 + 1, 1 << 53, 1 << 62,
		math.MaxInt32, math.MaxInt - 2, math.MaxInt - 1, math.MaxInt,
	}
}

// upTo are the numbers from one to another, that one too.
func upTo(from, to int) []int {
	var l []int
	for n := from; n <= to; n++ {
		l = append(l, n)
	}
	return l
}

// backwards are the numbers of a list, the last one first.
func backwards(l []int) []int {
	l = slices.Clone(l)
	slices.Reverse(l)
	return l
}

// without is a list but for what stands at a place.
func without(l []int, at int) []int { return slices.Delete(slices.Clone(l), at, at+1) }

// first is a list with what stands at a place ahead of the others.
func first(l []int, at int) []int { return slices.Insert(without(l, at), 0, l[at]) }

// made answers a list of a room, in which some keys were touched, one behind the other.
func made(t *testing.T, room int, keys ...int) *lru.List {
	t.Helper()
	l, e := lru.New(room)
	if e != api.OK || l == nil {
		t.Fatalf("New(%d) = %v, %v", room, l, e)
	}
	for _, key := range keys {
		if _, _, e := l.Touch(key); e != api.OK {
			t.Fatalf("Touch(%d): %v", key, e)
		}
	}
	return l
}

// pin pins keys that are there.
func pin(t *testing.T, l *lru.List, keys ...int) {
	t.Helper()
	for _, key := range keys {
		wantPin(t, l, key, true, api.OK)
	}
}

func wantStays(t *testing.T, l *lru.List, key int) {
	t.Helper()
	if gone, went, e := l.Touch(key); gone != 0 || went || e != api.OK {
		t.Errorf("Touch(%d) = %d, %v, %v; want that none goes", key, gone, went, e)
	}
}

func wantGone(t *testing.T, l *lru.List, key, want int) {
	t.Helper()
	if gone, went, e := l.Touch(key); gone != want || !went || e != api.OK {
		t.Errorf("Touch(%d) = %d, %v, %v; want that %d goes", key, gone, went, e, want)
	}
}

func wantNoTouch(t *testing.T, l *lru.List, key int, want api.Errno) {
	t.Helper()
	if gone, went, e := l.Touch(key); gone != 0 || went || e != want {
		t.Errorf("Touch(%d) = %d, %v, %v; want 0, false, %v", key, gone, went, e, want)
	}
}

func wantPin(t *testing.T, l *lru.List, key int, is bool, want api.Errno) {
	t.Helper()
	if e := l.Pin(key, is); e != want {
		t.Errorf("Pin(%d, %v) = %v; want %v", key, is, e, want)
	}
}

func wantDrop(t *testing.T, l *lru.List, key int, want api.Errno) {
	t.Helper()
	if e := l.Drop(key); e != want {
		t.Errorf("Drop(%d) = %v; want %v", key, e, want)
	}
}

// wantKeys holds the keys against some, the first one first, and Has too.
func wantKeys(t *testing.T, l *lru.List, want ...int) {
	t.Helper()
	if keys := l.Keys(); !slices.Equal(keys, want) {
		t.Errorf("Keys() = %v; want %v", keys, want)
	}
	for _, key := range want {
		wantHas(t, l, key, true)
	}
}

func wantHas(t *testing.T, l *lru.List, key int, want bool) {
	t.Helper()
	if has := l.Has(key); has != want {
		t.Errorf("Has(%d) = %v; want %v", key, has, want)
	}
}

// wantPinned holds which of the keys are pinned against some.
func wantPinned(t *testing.T, l *lru.List, want ...int) {
	t.Helper()
	for _, key := range l.Keys() {
		if is := slices.Contains(want, key); l.Pinned(key) != is {
			t.Errorf("Pinned(%d) = %v; want %v", key, !is, is)
		}
	}
	for _, key := range want {
		if !l.Pinned(key) {
			t.Errorf("Pinned(%d) = false; want true", key)
		}
	}
}

func wantRoom(t *testing.T, l *lru.List, want int) {
	t.Helper()
	if room := l.Room(); room != want {
		t.Errorf("Room() = %d; want %d", room, want)
	}
}

// wantNotThere holds a list to say of a key that it is not there.
func wantNotThere(t *testing.T, l *lru.List, key int) {
	t.Helper()
	wantHas(t, l, key, false)
	if l.Pinned(key) {
		t.Errorf("Pinned(%d) = true; want false", key)
	}
	wantPin(t, l, key, true, api.ErrNone)
	wantPin(t, l, key, false, api.ErrNone)
	wantDrop(t, l, key, api.ErrNone)
}

func TestExamples(t *testing.T) {
	if l, e := lru.New(0); l != nil || e != api.ErrArg {
		t.Errorf("New(0) = %v, %v; want nil, %v", l, e, api.ErrArg)
	}
	l := made(t, 2)
	wantStays(t, l, 5)
	wantStays(t, l, 6)
	wantPin(t, l, 5, true, api.OK)
	wantGone(t, l, 7, 6)
	wantKeys(t, l, 7, 5)
	wantStays(t, l, 5)
	wantKeys(t, l, 5, 7)
	wantPin(t, l, 7, true, api.OK)
	wantNoTouch(t, l, 8, api.ErrFull)
	wantDrop(t, l, 9, api.ErrNone)
}

// P15.1 (New, Touch): from here on.

func TestNewOfEachRoom(t *testing.T) {
	if api.MaxRoom != maxRoom {
		t.Fatalf("MaxRoom = %d; want %d", api.MaxRoom, maxRoom)
	}
	for _, room := range rooms() {
		l := made(t, room)
		wantRoom(t, l, room)
		wantKeys(t, l)
		for _, key := range farKeys() {
			wantNotThere(t, l, key)
		}
	}
}

func TestNewOfNoRoom(t *testing.T) {
	for _, room := range noRooms() {
		if l, e := lru.New(room); l != nil || e != api.ErrArg {
			t.Errorf("New(%d) = %v, %v; want nil, %v", room, l, e, api.ErrArg)
		}
	}
}

func TestNilAndZero(t *testing.T) {
	for what, l := range map[string]*lru.List{"nil": nil, "zero": {}} {
		t.Run(what, func(t *testing.T) {
			for range 2 {
				for _, key := range farKeys() {
					wantNoTouch(t, l, key, api.ErrNil)
					wantPin(t, l, key, true, api.ErrNil)
					wantPin(t, l, key, false, api.ErrNil)
					wantDrop(t, l, key, api.ErrNil)
					wantHas(t, l, key, false)
					if l.Pinned(key) {
						t.Errorf("Pinned(%d) = true; want false", key)
					}
				}
				wantKeys(t, l)
				wantRoom(t, l, 0)
			}
		})
	}
}

// Of each room: none goes while there is some left, the last one when there is none.
func TestTouchOfEachRoom(t *testing.T) {
	for _, room := range rooms() {
		l := made(t, room)
		for key := 1; key <= room; key++ {
			wantStays(t, l, key)
			wantKeys(t, l, backwards(upTo(1, key))...)
		}
		for key := room + 1; key <= 3*room; key++ {
			wantGone(t, l, key, key-room)
			wantKeys(t, l, backwards(upTo(key-room+1, key))...)
			wantNotThere(t, l, key-room)
		}
		wantRoom(t, l, room)
		wantPinned(t, l)
	}
}

// A key that is there is the first one, wherever it stood, and none goes.
func TestTouchOfEachPlace(t *testing.T) {
	for _, room := range []int{1, 2, 3, 4, 5, 8, 63, maxRoom} {
		for many := 1; many <= room; many++ {
			keys := backwards(upTo(1, many))
			for at, key := range keys {
				l := made(t, room, upTo(1, many)...)
				wantStays(t, l, key)
				wantKeys(t, l, first(keys, at)...)
				wantStays(t, l, key)
				wantKeys(t, l, first(keys, at)...)
			}
		}
	}
}

// What is pinned is the first one, too, when it is touched, and is pinned still.
func TestTouchOfPinned(t *testing.T) {
	for at, key := range []int{4, 3, 2, 1} {
		l := made(t, 4, 1, 2, 3, 4)
		pin(t, l, key)
		wantStays(t, l, key)
		wantKeys(t, l, first([]int{4, 3, 2, 1}, at)...)
		wantPinned(t, l, key)
		pin(t, l, 1, 2, 3, 4)
		wantStays(t, l, 1)
		wantPinned(t, l, 1, 2, 3, 4)
	}
}

// Keys are told from each other by all of their bytes, and any may come, stay and go.
func TestTouchOfFarKeys(t *testing.T) {
	all := farKeys()
	for _, room := range []int{1, 2, 3, 31, 32, 33} {
		l := made(t, room)
		for i, key := range all {
			wantNotThere(t, l, key)
			if i < room {
				wantStays(t, l, key)
			} else {
				wantGone(t, l, key, all[i-room])
			}
			wantKeys(t, l, backwards(all[max(0, i+1-room):i+1])...)
		}
	}
	l := made(t, len(all), all...)
	for i, key := range all {
		wantStays(t, l, key)
		wantPin(t, l, key, true, api.OK)
		wantPinned(t, l, all[:i+1]...)
	}
	wantNoTouch(t, l, 3, api.ErrFull)
	for i, key := range all {
		wantDrop(t, l, key, api.OK)
		wantNotThere(t, l, key)
		wantKeys(t, l, backwards(all[i+1:])...)
	}
}

// A key of 0 goes as others do, and is told from none.
func TestGoneOf0(t *testing.T) {
	l := made(t, 2, 0, 1)
	wantGone(t, l, 2, 0)
	wantGone(t, l, 0, 1)
	wantKeys(t, l, 0, 2)
}

// A key that went comes back as a new one: first, not pinned, and another goes for it.
func TestTouchOfWhatWent(t *testing.T) {
	l := made(t, 3, 1, 2, 3)
	wantGone(t, l, 4, 1)
	wantGone(t, l, 1, 2)
	wantKeys(t, l, 1, 4, 3)
	wantGone(t, l, 2, 3)
	wantKeys(t, l, 2, 1, 4)
	wantPinned(t, l)
}

// The last one that is not pinned goes, whichever are; where all are, none comes.
func TestWhichGoes(t *testing.T) {
	for room := 1; room <= 7; room++ {
		keys := backwards(upTo(1, room))
		for mask := range 1 << room {
			l := made(t, room, upTo(1, room)...)
			var pinned []int
			last := -1
			for at, key := range keys {
				if mask>>at&1 == 1 {
					pinned = append(pinned, key)
				} else {
					last = at
				}
			}
			pin(t, l, pinned...)
			if last < 0 {
				wantNoTouch(t, l, 100, api.ErrFull)
				wantKeys(t, l, keys...)
				wantNotThere(t, l, 100)
			} else {
				wantGone(t, l, 100, keys[last])
				wantKeys(t, l, slices.Insert(without(keys, last), 0, 100)...)
				wantNotThere(t, l, keys[last])
			}
			wantPinned(t, l, pinned...)
		}
	}
}

// Of a long list: but one is pinned, wherever it stands, so that this one goes.
func TestWhichGoesOfAllButOne(t *testing.T) {
	for _, room := range []int{2, 3, 63, maxRoom} {
		keys := backwards(upTo(1, room))
		for at, key := range keys {
			l := made(t, room, upTo(1, room)...)
			pin(t, l, without(keys, at)...)
			wantGone(t, l, 0, key)
			wantKeys(t, l, slices.Insert(without(keys, at), 0, 0)...)
			wantPinned(t, l, without(keys, at)...)
			wantGone(t, l, key, 0)
			wantPinned(t, l, without(keys, at)...)
		}
	}
}

// The key that comes does not itself go, though all others are pinned.
func TestWhatComesDoesNotGo(t *testing.T) {
	for _, room := range []int{1, 2, 3, maxRoom} {
		l := made(t, room, upTo(1, room)...)
		pin(t, l, upTo(1, room)...)
		for range 3 {
			wantNoTouch(t, l, 0, api.ErrFull)
			wantNoTouch(t, l, -1, api.ErrFull)
			wantKeys(t, l, backwards(upTo(1, room))...)
			wantPinned(t, l, upTo(1, room)...)
			wantNotThere(t, l, 0)
			wantRoom(t, l, room)
		}
		wantStays(t, l, 1)
		wantPin(t, l, 1, false, api.OK)
		wantGone(t, l, 0, 1)
		wantHas(t, l, 0, true)
	}
}

// In a list with room left nothing goes, though all that is there is pinned.
func TestTouchWithRoomLeft(t *testing.T) {
	for _, room := range []int{2, 3, maxRoom} {
		l := made(t, room)
		for key := 1; key < room; key++ {
			wantStays(t, l, key)
			pin(t, l, key)
		}
		wantStays(t, l, room)
		wantKeys(t, l, backwards(upTo(1, room))...)
		wantGone(t, l, room+1, room)
		pin(t, l, room+1)
		wantNoTouch(t, l, room, api.ErrFull)
	}
}

func TestRoomOf1(t *testing.T) {
	l := made(t, 1)
	wantStays(t, l, 8)
	wantStays(t, l, 8)
	wantGone(t, l, 9, 8)
	wantKeys(t, l, 9)
	pin(t, l, 9)
	wantNoTouch(t, l, 8, api.ErrFull)
	wantStays(t, l, 9)
	wantKeys(t, l, 9)
	wantPinned(t, l, 9)
	wantPin(t, l, 9, false, api.OK)
	wantGone(t, l, 8, 9)
	pin(t, l, 8)
	wantDrop(t, l, 8, api.OK)
	wantKeys(t, l)
	wantStays(t, l, 9)
	wantGone(t, l, 8, 9)
	wantPinned(t, l)
}

// P15.2 (Pin, Drop, Has, Pinned, Keys, Room): from here on.

// Pin, on and off, changes no order, wherever the key stands, and no other key's.
func TestPinOfEachPlace(t *testing.T) {
	for _, room := range []int{1, 2, 3, 5, maxRoom} {
		keys := backwards(upTo(1, room))
		l := made(t, room, upTo(1, room)...)
		for _, key := range keys {
			wantPin(t, l, key, true, api.OK)
			wantKeys(t, l, keys...)
			wantPinned(t, l, key)
			wantPin(t, l, key, false, api.OK)
			wantKeys(t, l, keys...)
			wantPinned(t, l)
		}
	}
}

// A key is pinned or not, however often it was said.
func TestPinAgain(t *testing.T) {
	l := made(t, 3, 1, 2, 3)
	wantPin(t, l, 1, false, api.OK)
	wantPin(t, l, 1, false, api.OK)
	wantPinned(t, l)
	for range 3 {
		wantPin(t, l, 1, true, api.OK)
		wantPinned(t, l, 1)
	}
	wantGone(t, l, 4, 2)
	wantPin(t, l, 1, false, api.OK)
	wantPinned(t, l)
	wantPin(t, l, 1, false, api.OK)
	wantPinned(t, l)
	wantGone(t, l, 5, 1)
	wantKeys(t, l, 5, 4, 3)
}

// What is not there can't be pinned or dropped: it was never, it went, it was dropped.
func TestNotThere(t *testing.T) {
	l := made(t, 3, 1, 2, 3)
	pin(t, l, 2)
	wantGone(t, l, 4, 1)
	wantDrop(t, l, 3, api.OK)
	for _, key := range append(farKeys(), 1, 3, 5, -4, 1<<32+2, 1<<32+4, 258) {
		if key == 2 || key == 4 {
			continue
		}
		wantNotThere(t, l, key)
		wantKeys(t, l, 4, 2)
		wantPinned(t, l, 2)
	}
	wantDrop(t, l, 2, api.OK)
	wantDrop(t, l, 4, api.OK)
	for key := range 6 {
		wantNotThere(t, l, key)
		wantKeys(t, l)
	}
}

// What is dropped goes, wherever it stands, pinned or not; there is room for one more then.
func TestDropOfEachPlace(t *testing.T) {
	for _, room := range []int{1, 2, 3, 4, 63, maxRoom} {
		keys := backwards(upTo(1, room))
		for at, key := range keys {
			for _, is := range []bool{false, true} {
				l := made(t, room, upTo(1, room)...)
				wantPin(t, l, key, is, api.OK)
				wantDrop(t, l, key, api.OK)
				wantKeys(t, l, without(keys, at)...)
				wantNotThere(t, l, key)
				wantRoom(t, l, room)
				wantStays(t, l, key)
				wantKeys(t, l, first(keys, at)...)
				wantPinned(t, l)
				rest := without(keys, at)
				wantGone(t, l, 0, slices.Concat([]int{key}, rest)[room-1])
			}
		}
	}
}

// All are dropped, in either order, and the list is as a new one.
func TestDropOfAll(t *testing.T) {
	for _, order := range [][]int{upTo(1, 9), backwards(upTo(1, 9)), {5, 1, 9, 3, 7, 2, 8, 4, 6}} {
		l := made(t, 9, upTo(1, 9)...)
		pin(t, l, 1, 5, 9)
		left := backwards(upTo(1, 9))
		for _, key := range order {
			wantDrop(t, l, key, api.OK)
			left = without(left, slices.Index(left, key))
			wantKeys(t, l, left...)
		}
		for key := 1; key <= 9; key++ {
			wantStays(t, l, key)
		}
		wantPinned(t, l)
		wantGone(t, l, 10, 1)
		wantKeys(t, l, backwards(upTo(2, 10))...)
	}
}

// A pinned key that was dropped, and touched anew, is not pinned, and goes by itself.
func TestDropOfPinned(t *testing.T) {
	l := made(t, 2, 1, 2)
	pin(t, l, 1, 2)
	wantNoTouch(t, l, 3, api.ErrFull)
	wantDrop(t, l, 1, api.OK)
	wantPinned(t, l, 2)
	wantStays(t, l, 1)
	wantPinned(t, l, 2)
	wantGone(t, l, 3, 1)
	wantStays(t, l, 2)
	wantKeys(t, l, 2, 3)
	pin(t, l, 3)
	wantDrop(t, l, 2, api.OK)
	wantStays(t, l, 4)
	wantGone(t, l, 2, 4)
}

// One that is let go goes ahead of those that stand in front of it.
func TestLetGoInTheMidst(t *testing.T) {
	l := made(t, 5, 1, 2, 3, 4, 5)
	pin(t, l, 1, 2, 3)
	wantPin(t, l, 2, false, api.OK)
	wantGone(t, l, 6, 2)
	wantGone(t, l, 7, 4)
	wantPin(t, l, 1, false, api.OK)
	wantGone(t, l, 8, 1)
	wantKeys(t, l, 8, 7, 6, 5, 3)
	wantPinned(t, l, 3)
}

// The keys, behind each of the others, the first one first.
func TestKeysBehindEach(t *testing.T) {
	l := made(t, 3)
	wantKeys(t, l)
	wantStays(t, l, 4)
	wantKeys(t, l, 4)
	wantStays(t, l, -9)
	wantKeys(t, l, -9, 4)
	wantPin(t, l, 4, true, api.OK)
	wantKeys(t, l, -9, 4)
	wantStays(t, l, 0)
	wantKeys(t, l, 0, -9, 4)
	wantStays(t, l, -9)
	wantKeys(t, l, -9, 0, 4)
	wantHas(t, l, 4, true)
	wantKeys(t, l, -9, 0, 4)
	wantPinned(t, l, 4)
	wantKeys(t, l, -9, 0, 4)
	wantRoom(t, l, 3)
	wantKeys(t, l, -9, 0, 4)
	wantGone(t, l, 7, 0)
	wantKeys(t, l, 7, -9, 4)
	wantDrop(t, l, -9, api.OK)
	wantKeys(t, l, 7, 4)
	wantDrop(t, l, -9, api.ErrNone)
	wantKeys(t, l, 7, 4)
	wantPin(t, l, 4, false, api.OK)
	wantKeys(t, l, 7, 4)
	wantDrop(t, l, 4, api.OK)
	wantKeys(t, l, 7)
	wantDrop(t, l, 7, api.OK)
	wantKeys(t, l)
}

// What the list is hangs on no answer: two share nothing with each other or with it, the
// room behind their ends too.
func TestKeysShareNone(t *testing.T) {
	for _, room := range []int{1, 2, 3, 5, maxRoom} {
		for many := range room + 1 {
			l := made(t, room, upTo(1, many)...)
			want := backwards(upTo(1, many))
			a, b := l.Keys(), l.Keys()
			a = a[:cap(a)]
			for i := range a {
				a[i] = -1
			}
			if !slices.Equal(b, want) {
				t.Errorf("Keys() is another one, since another answer was changed: %v", b)
			}
			wantKeys(t, l, want...)
			wantHas(t, l, -1, false)
			wantStays(t, l, 1)
			if !slices.Equal(b, want) {
				t.Errorf("Keys() is another one, since a key was touched: %v", b)
			}
		}
	}
}

// P15.3 (what follows): from here on.

// item is a key of a model, and whether it is pinned.
type item struct {
	key    int
	pinned bool
}

// model is what a list must be: a row of keys, the first one first.
type model struct {
	room int
	row  []item
}

func (m model) at(key int) int {
	return slices.IndexFunc(m.row, func(x item) bool { return x.key == key })
}

// out answers the item at a place, and the row without it.
func (m model) out(at int) (item, []item) {
	return m.row[at], slices.Delete(slices.Clone(m.row), at, at+1)
}

// touch answers what Touch must, and the model behind it.
func (m model) touch(key int) (next model, gone int, went bool, e api.Errno) {
	if at := m.at(key); at >= 0 {
		x, rest := m.out(at)
		return model{m.room, append([]item{x}, rest...)}, 0, false, api.OK
	}
	next = model{m.room, append([]item{{key: key}}, m.row...)}
	if len(next.row) <= m.room {
		return next, 0, false, api.OK
	}
	for at := len(next.row) - 1; at > 0; at-- {
		if !next.row[at].pinned {
			x, rest := next.out(at)
			return model{m.room, rest}, x.key, true, api.OK
		}
	}
	return m, 0, false, api.ErrFull
}

func (m model) pin(key int, is bool) (model, api.Errno) {
	at := m.at(key)
	if at < 0 {
		return m, api.ErrNone
	}
	next := slices.Clone(m.row)
	next[at].pinned = is
	return model{m.room, next}, api.OK
}

func (m model) drop(key int) (model, api.Errno) {
	at := m.at(key)
	if at < 0 {
		return m, api.ErrNone
	}
	_, rest := m.out(at)
	return model{m.room, rest}, api.OK
}

// word is what the model is, as a text.
func (m model) word() string {
	s := ""
	for _, x := range m.row {
		s += strconv.Itoa(x.key)
		if x.pinned {
			s += "!"
		}
		s += " "
	}
	return s
}

// deed is one of the things that a step may do.
type deed int

const (
	touches deed = iota
	pins
	letsGo
	drops
	deeds
)

// step is a deed on a key.
type step struct {
	deed deed
	key  int
}

func (s step) word() string {
	return [...]string{"touch ", "pin ", "let go ", "drop "}[s.deed] + strconv.Itoa(s.key)
}

// take does a step on a list and on its model, and holds the answers against each other.
func (m model) take(t *testing.T, l *lru.List, s step) model {
	t.Helper()
	var want, got api.Errno
	next := m
	switch s.deed {
	case touches:
		var gone, lost int
		var went, loses bool
		next, gone, went, want = m.touch(s.key)
		lost, loses, got = l.Touch(s.key)
		if lost != gone || loses != went {
			t.Fatalf("[%s] Touch(%d) = %d, %v; want %d, %v", m.word(), s.key, lost, loses, gone, went)
		}
	case pins, letsGo:
		next, want = m.pin(s.key, s.deed == pins)
		got = l.Pin(s.key, s.deed == pins)
	case drops:
		next, want = m.drop(s.key)
		got = l.Drop(s.key)
	}
	if got != want {
		t.Fatalf("[%s] %s: %v; want %v", m.word(), s.word(), got, want)
	}
	return next
}

// check holds all that a list tells of itself, and of some keys, against its model.
func (m model) check(t *testing.T, l *lru.List, keys int, what string) {
	t.Helper()
	row := l.Keys()
	same := slices.EqualFunc(row, m.row, func(key int, x item) bool { return key == x.key })
	if !same || l.Room() != m.room {
		t.Fatalf("%s: Keys() = %v, Room() = %d; want [%s], %d", what, row, l.Room(), m.word(), m.room)
	}
	slices.Sort(row)
	if len(slices.Compact(row)) != len(m.row) {
		t.Fatalf("%s: a key is there twice: %v", what, row)
	}
	for key := range keys {
		at := m.at(key)
		if l.Has(key) != (at >= 0) || l.Pinned(key) != (at >= 0 && m.row[at].pinned) {
			t.Fatalf("%s: Has(%d) = %v, Pinned(%d) = %v; want [%s]", what, key, l.Has(key), key, l.Pinned(key), m.word())
		}
	}
}

// steps are all that may be done on so many keys.
func steps(keys int) []step {
	var all []step
	for d := range deeds {
		for key := range keys {
			all = append(all, step{d, key})
		}
	}
	return all
}

// Each list that there can be of some keys in a small room, reached by as few
// steps as may be: each step on each of them.
func TestEachStepOfEachList(t *testing.T) {
	for _, c := range []struct{ room, keys, lists int }{{1, 3, 7}, {2, 4, 57}, {3, 4, 249}, {3, 5, 571}, {4, 5, 2491}, {5, 4, 633}} {
		start := model{room: c.room}
		ways := map[string][]step{start.word(): nil}
		for queue := []model{start}; len(queue) > 0; queue = queue[1:] {
			m := queue[0]
			way := ways[m.word()]
			for _, s := range steps(c.keys) {
				next := walked(t, c.room, way).taken(t, s, c.keys)
				if _, ok := ways[next.word()]; !ok {
					ways[next.word()] = append(slices.Clone(way), s)
					queue = append(queue, next)
				}
			}
		}
		if len(ways) != c.lists {
			t.Errorf("room %d, %d keys: %d lists were reached; want %d", c.room, c.keys, len(ways), c.lists)
		}
	}
}

// pair is a list and its model.
type pair struct {
	l *lru.List
	m model
}

// walked answers a list behind some steps.
func walked(t *testing.T, room int, way []step) pair {
	t.Helper()
	p := pair{made(t, room), model{room: room}}
	for _, s := range way {
		p.m = p.m.take(t, p.l, s)
	}
	return p
}

// taken takes a step, and holds all that the list has behind it against the model.
func (p pair) taken(t *testing.T, s step, keys int) model {
	t.Helper()
	next := p.m.take(t, p.l, s)
	next.check(t, p.l, keys, "["+p.m.word()+"] "+s.word())
	return next
}

// Each row of a few steps from a new list on, and from a full one.
func TestEachRowOfSteps(t *testing.T) {
	for _, c := range []struct{ room, keys, many, full int }{{1, 2, 5, 0}, {1, 3, 4, 1}, {2, 3, 4, 0}, {2, 3, 4, 2}, {3, 4, 3, 3}} {
		all := steps(c.keys)
		var way []step
		for key := range c.full {
			way = append(way, step{touches, key})
		}
		var rows func(row []step)
		rows = func(row []step) {
			p := walked(t, c.room, row[:max(0, len(row)-1)])
			if len(row) > len(way) {
				p.taken(t, row[len(row)-1], c.keys)
			}
			if len(row) == len(way)+c.many {
				return
			}
			for _, s := range all {
				rows(append(slices.Clone(row), s))
			}
		}
		rows(way)
	}
}

// dice answers numbers from 0 to below a bound, the same ones for the same seed.
func dice(seed int) func(bound int) int {
	n := uint32(seed)*2654435761 + 12345
	return func(bound int) int {
		n = n*1664525 + 1013904223
		return int(n>>8) % bound
	}
}

// Long rows of steps, with many touches, many pins, or many drops among them.
func TestLongRowsOfSteps(t *testing.T) {
	for _, room := range []int{1, 2, 3, 4, 7, 16, 63, maxRoom} {
		for mix, weights := range [][deeds]int{{1, 1, 1, 1}, {8, 1, 1, 1}, {6, 6, 1, 1}, {6, 1, 1, 4}, {5, 5, 5, 1}} {
			keys := 2*room + 2
			roll := dice(100*room + mix)
			p := pair{made(t, room), model{room: room}}
			for range 1500 {
				p.m = p.taken(t, step{weighed(roll, weights), roll(keys)}, keys)
			}
		}
	}
}

// weighed answers a deed, the more often the more it weighs.
func weighed(roll func(int) int, weights [deeds]int) deed {
	all := 0
	for _, w := range weights {
		all += w
	}
	n := roll(all)
	for d, w := range weights {
		if n < w {
			return deed(d)
		}
		n -= w
	}
	return touches
}

// What was touched among the last ones is there, in their order, as many as there is
// room for, if nothing was pinned or dropped.
func TestLastOnesAreThere(t *testing.T) {
	for _, room := range rooms() {
		for _, keys := range []int{room, room + 1, 2*room + 1, 5 * room} {
			roll := dice(1000*room + keys)
			l := made(t, room)
			var touched []int
			for range 6 * room {
				key := roll(keys) - room
				if _, _, e := l.Touch(key); e != api.OK {
					t.Fatalf("Touch(%d): %v", key, e)
				}
				touched = append(touched, key)
			}
			wantKeys(t, l, lastOnes(touched, room)...)
		}
	}
}

// lastOnes are the unlike keys that were touched last, the last one first, up to so many.
func lastOnes(touched []int, many int) []int {
	var l []int
	for _, key := range backwards(touched) {
		if len(l) < many && !slices.Contains(l, key) {
			l = append(l, key)
		}
	}
	return l
}

// Keys in any order, each one touched some times over, are there but once.
func TestNoKeyTwice(t *testing.T) {
	for _, room := range rooms() {
		keys := upTo(1, room)
		l := made(t, room)
		for _, order := range [][]int{keys, keys, backwards(keys), slices.Concat(keys[room/2:], keys[:room/2])} {
			for _, key := range order {
				wantStays(t, l, key)
				wantStays(t, l, key)
			}
			wantKeys(t, l, backwards(order)...)
		}
	}
}

// The rules that hold everywhere: from here on.

// Two lists side by side are each as if the other was not, of the same keys too.
func TestListsAreApart(t *testing.T) {
	for _, rooms := range [][2]int{{1, 1}, {2, 2}, {3, 5}, {5, 3}, {maxRoom, 1}} {
		keys := 2*max(rooms[0], rooms[1]) + 1
		roll := dice(100*rooms[0] + rooms[1])
		var both [2]pair
		for i, room := range rooms {
			both[i] = pair{made(t, room), model{room: room}}
		}
		for range 600 {
			i := roll(2)
			both[i].m = both[i].taken(t, step{weighed(roll, [deeds]int{6, 2, 2, 1}), roll(keys)}, keys)
			other := both[1-i]
			other.m.check(t, other.l, keys, "the other list")
		}
	}
}

// Has, Pinned, Keys and Room change nothing, of keys that are there and of others.
func TestAskingChangesNothing(t *testing.T) {
	l := made(t, 4, 1, 2, 3, 4)
	pin(t, l, 2)
	for range 3 {
		for key := -1; key < 7; key++ {
			wantHas(t, l, key, key >= 1 && key <= 4)
			if l.Pinned(key) != (key == 2) {
				t.Errorf("Pinned(%d) = %v", key, key != 2)
			}
			wantKeys(t, l, 4, 3, 2, 1)
			wantRoom(t, l, 4)
		}
	}
	wantGone(t, l, 5, 1)
	wantGone(t, l, 6, 3)
}

// A call that answers an error changes nothing: not the keys, not their order, not what is pinned.
func TestErrorsChangeNothing(t *testing.T) {
	l := made(t, 3, 1, 2, 3)
	pin(t, l, 1, 2, 3)
	for _, key := range append(farKeys(), 4, 5) {
		if key == 1 || key == 2 {
			continue
		}
		wantNoTouch(t, l, key, api.ErrFull)
		wantNotThere(t, l, key)
		wantKeys(t, l, 3, 2, 1)
		wantPinned(t, l, 1, 2, 3)
		wantRoom(t, l, 3)
	}
	wantPin(t, l, 2, false, api.OK)
	wantGone(t, l, 4, 2)
	wantKeys(t, l, 4, 3, 1)
	wantPinned(t, l, 1, 3)
}

// What a call answers hangs on what the list was given alone.
func TestAnswersAgain(t *testing.T) {
	for range 20 {
		l := made(t, 5, 9, -3, math.MaxInt, 0, math.MinInt, 7, -3)
		wantKeys(t, l, -3, 7, math.MinInt, 0, math.MaxInt)
		pin(t, l, math.MaxInt, 0)
		wantGone(t, l, 9, math.MinInt)
		wantGone(t, l, 8, 7)
		wantKeys(t, l, 8, 9, -3, 0, math.MaxInt)
	}
}
