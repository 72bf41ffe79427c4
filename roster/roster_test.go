package roster_test

import (
	"math"
	"testing"

	"ashlar/api"
	"ashlar/roster"
	"ashlar/super"
)

// The document's numbers, written out, so that a limit or a kind that is asked wrongly is told.
const (
	minMembers = 3
	maxMembers = 16
	maxStripes = 64
	minRing    = 40
	maxRing    = 256
)

const (
	inSync  = 0
	lost    = 1
	healing = 2
	noState = 3
)

const (
	optimal    = 1
	degraded   = 2
	rebuilding = 3
	readOnly   = 4
	failed     = 5
)

type states = [maxMembers]uint8

// small is the geometry of the chapter's examples.
var small = api.Geo{Members: 3, Stripes: 2, Ring: 40}

// of answers a roster of so many members and stripes.
func of(members, stripes int, s states, cursor int, gone bool) api.Roster {
	return api.Roster{Geo: api.Geo{Members: members, Stripes: stripes, Ring: 40}, States: s, Cursor: cursor, Gone: gone}
}

// only answers states of which some members have one, and all others are in sync.
func only(state uint8, members ...int) (s states) {
	for _, m := range members {
		s[m] = state
	}
	return s
}

// with answers states of which one is another.
func with(s states, member int, state uint8) states {
	s[member] = state
	return s
}

// far are numbers far beyond what anything counts, on both sides; some would be within in fewer bytes.
func far() []int {
	return []int{
		math.MinInt, math.MinInt + 1, -1<<32 + 3, -1 << 32, -1 << 31, -65536 + 40, -256, -64, -16,
		256, 257, 65536, 65536 + 40, 1 << 31, 1 << 32, 1<<32 + 3, 1<<32 + 40, math.MaxInt - 1, math.MaxInt,
	}
}

// beyond are the numbers next to those from 0 to below many, on both sides, and far ones.
func beyond(many int) []int { return append(far(), -2, -1, many, many+1) }

// geometries are those that may be, at each limit and next to it.
func geometries() []api.Geo {
	var l []api.Geo
	for _, members := range []int{minMembers, 4, 9, maxMembers - 1, maxMembers} {
		for _, stripes := range []int{1, 2, 3, maxStripes - 1, maxStripes} {
			for _, ring := range []int{minRing, minRing + 1, 255, maxRing} {
				l = append(l, api.Geo{Members: members, Stripes: stripes, Ring: ring})
			}
		}
	}
	return l
}

// noGeometries are some that may not be: a number of theirs is beyond, or all are.
func noGeometries() []api.Geo {
	l := []api.Geo{{}, {Members: 3}, {Stripes: 2}, {Ring: 40}, {Members: 3, Stripes: 2}, {Members: 3, Ring: 40}, {Stripes: 2, Ring: 40}, {Members: 40, Stripes: 2, Ring: 3}}
	for _, g := range []api.Geo{small, {Members: maxMembers, Stripes: maxStripes, Ring: maxRing}} {
		for _, n := range append(far(), -3, -1, 0, 1, minMembers-1, maxMembers+1) {
			if n < minMembers || n > maxMembers {
				l = append(l, api.Geo{Members: n, Stripes: g.Stripes, Ring: g.Ring}, api.Geo{Members: n, Stripes: n, Ring: n})
			}
		}
		for _, n := range append(far(), -2, -1, 0, maxStripes+1) {
			l = append(l, api.Geo{Members: g.Members, Stripes: n, Ring: g.Ring})
		}
		for _, n := range append(far(), -40, -1, 0, minRing-1, maxRing+1) {
			if n < minRing || n > maxRing {
				l = append(l, api.Geo{Members: g.Members, Stripes: g.Stripes, Ring: n})
			}
		}
	}
	return l
}

// tables are the states that may be of so many members: of few all there are, of many
// those of one, two and all out of order.
func tables(members int) []states {
	if members <= 4 {
		return tablesOfAll(members)
	}
	var all states
	for m := range members {
		all[m] = lost
	}
	l := []states{{}, all}
	for a := range members {
		one := only(lost, a)
		l = append(l, one, only(healing, a), with(all, a, healing), with(all, a, inSync))
		for b := range a {
			l = append(l, with(one, b, lost), with(one, b, healing), with(only(healing, a), b, lost))
		}
	}
	return l
}

// tablesOfAll are all states of so many members of which at most one heals.
func tablesOfAll(members int) []states {
	l := []states{{}}
	for m := range members {
		for _, s := range l {
			l = append(l, with(s, m, lost))
			if _, n := healer(s); n == 0 {
				l = append(l, with(s, m, healing))
			}
		}
	}
	return l
}

// healer tells the last one that heals, and how many do.
func healer(s states) (member, many int) {
	for m, state := range s {
		if state == healing {
			member = m
			many++
		}
	}
	return member, many
}

// outOfOrder tells how many are not in sync.
func outOfOrder(s states) int {
	n := 0
	for _, state := range s {
		if state != inSync {
			n++
		}
	}
	return n
}

// cursors are those at each edge that a roster of such states may have.
func cursors(s states, stripes int) []int {
	if _, n := healer(s); n == 0 {
		return []int{0}
	}
	var l []int
	for c := range stripes {
		if stripes <= 3 || c < 2 || c == stripes/2 || c >= stripes-2 {
			l = append(l, c)
		}
	}
	return l
}

// rosters are those that may be: of the least, some and the most members and
// stripes, of all states and cursors, with the log there and gone.
func rosters() []api.Roster {
	var l []api.Roster
	for _, members := range []int{minMembers, 4, maxMembers} {
		for _, stripes := range []int{1, 2, 3, maxStripes} {
			for i, s := range tables(members) {
				for _, cursor := range cursors(s, stripes) {
					r := of(members, stripes, s, cursor, false)
					r.Geo.Ring = minRing + i%(maxRing-minRing+1)
					l = append(l, r)
					r.Gone = true
					l = append(l, r)
				}
			}
		}
	}
	return l
}

// bases are rosters that may be, one of each kind, of few members and of many.
func bases() []api.Roster {
	var l []api.Roster
	for _, members := range []int{minMembers, 7, maxMembers} {
		for _, stripes := range []int{1, 5, maxStripes} {
			for _, gone := range []bool{false, true} {
				l = append(l,
					of(members, stripes, states{}, 0, gone),
					of(members, stripes, only(lost, members-1), 0, gone),
					of(members, stripes, only(healing, 1), stripes-1, gone),
					of(members, stripes, states{lost, lost, healing}, stripes/2, gone),
				)
			}
		}
	}
	return l
}

// noRosters are rosters that may not be, each for one cause.
func noRosters() []api.Roster {
	l := []api.Roster{{}, {Gone: true}, {Cursor: 1}}
	for _, r := range bases() {
		l = append(l, noRostersNear(r)...)
	}
	for _, g := range noGeometries() {
		l = append(l, api.Roster{Geo: g}, api.Roster{Geo: g, States: only(lost, 0)}, api.Roster{Geo: g, States: only(healing, 0)})
	}
	return l
}

// noRostersNear are rosters that differ from one that may be in one thing, and may not be.
func noRostersNear(r api.Roster) []api.Roster {
	var l []api.Roster
	change := func(s states, cursor int) {
		c := r
		c.States, c.Cursor = s, cursor
		l = append(l, c)
	}
	for m := range maxMembers {
		for _, state := range []uint8{noState, 4, 5, 127, 128, 129, 130, 254, 255} {
			change(with(r.States, m, state), r.Cursor)
		}
		if m >= r.Geo.Members {
			change(with(r.States, m, lost), r.Cursor)
			change(with(r.States, m, healing), r.Cursor)
		}
	}
	h, n := healer(r.States)
	for m := range r.Geo.Members {
		switch {
		case n == 1 && m != h:
			change(with(r.States, m, healing), r.Cursor)
		case n == 0 && m > 0:
			change(with(with(r.States, 0, healing), m, healing), 0)
		}
	}
	for _, cursor := range beyond(r.Geo.Stripes) {
		change(r.States, cursor)
	}
	if n == 0 {
		for cursor := 1; cursor < r.Geo.Stripes; cursor++ {
			change(r.States, cursor)
		}
	}
	return l
}

func wantNew(t *testing.T, g api.Geo, want api.Roster, e api.Errno) {
	t.Helper()
	if r, got := roster.New(g); r != want || got != e {
		t.Errorf("New(%+v) = %+v, %v; want %+v, %v", g, r, got, want, e)
	}
}

func wantMay(t *testing.T, r api.Roster, want bool) {
	t.Helper()
	if got := roster.May(r); got != want {
		t.Errorf("May(%+v) = %v; want %v", r, got, want)
	}
}

func wantHas(t *testing.T, r api.Roster, member, stripe int, want bool) {
	t.Helper()
	if got := roster.Has(r, member, stripe); got != want {
		t.Errorf("Has(%+v, %d, %d) = %v; want %v", r, member, stripe, got, want)
	}
}

func wantMissing(t *testing.T, r api.Roster, want int) {
	t.Helper()
	if got := roster.Missing(r); got != want {
		t.Errorf("Missing(%+v) = %d; want %d", r, got, want)
	}
}

func wantState(t *testing.T, r api.Roster, want int) {
	t.Helper()
	if got := roster.State(r); got != want {
		t.Errorf("State(%+v) = %d; want %d", r, got, want)
	}
}

func wantHeals(t *testing.T, r api.Roster, member int, ok bool) {
	t.Helper()
	if m, got := roster.Heals(r); m != member || got != ok {
		t.Errorf("Heals(%+v) = %d, %v; want %d, %v", r, m, got, member, ok)
	}
}

func wantLose(t *testing.T, r api.Roster, member int, want api.Roster, was bool) {
	t.Helper()
	if got, ok := roster.Lose(r, member); got != want || ok != was {
		t.Errorf("Lose(%+v, %d) = %+v, %v; want %+v, %v", r, member, got, ok, want, was)
	}
}

func wantBegin(t *testing.T, r api.Roster, member int, want api.Roster, e api.Errno) {
	t.Helper()
	if got, e2 := roster.Begin(r, member); got != want || e2 != e {
		t.Errorf("Begin(%+v, %d) = %+v, %v; want %+v, %v", r, member, got, e2, want, e)
	}
}

func wantNext(t *testing.T, r, want api.Roster, e api.Errno) {
	t.Helper()
	if got, e2 := roster.Next(r); got != want || e2 != e {
		t.Errorf("Next(%+v) = %+v, %v; want %+v, %v", r, got, e2, want, e)
	}
}

func wantGone(t *testing.T, r api.Roster, gone bool, want api.Roster, e api.Errno) {
	t.Helper()
	if got, e2 := roster.Gone(r, gone); got != want || e2 != e {
		t.Errorf("Gone(%+v, %v) = %+v, %v; want %+v, %v", r, gone, got, e2, want, e)
	}
}

// must answers a roster that is answered with OK.
func must(t *testing.T, r api.Roster, e api.Errno) api.Roster {
	t.Helper()
	if e != api.OK {
		t.Fatalf("%v", e)
	}
	return r
}

// cells are all that members have, by member and stripe.
func cells(r api.Roster) map[api.Place]bool {
	l := map[api.Place]bool{}
	for m := range r.Geo.Members {
		for s := range r.Geo.Stripes {
			if roster.Has(r, m, s) {
				l[api.Place{Stripe: s, Member: m}] = true
			}
		}
	}
	return l
}

// The chapter's examples.

func TestExamples(t *testing.T) {
	r, e := roster.New(small)
	r = must(t, r, e)
	wantState(t, r, optimal)

	r, was := roster.Lose(r, 1)
	if !was {
		t.Error("Lose(1): it was lost")
	}
	wantState(t, r, degraded)
	wantHas(t, r, 1, 0, false)

	r, e = roster.Begin(r, 1)
	r = must(t, r, e)
	wantState(t, r, rebuilding)

	r, e = roster.Next(r)
	r = must(t, r, e)
	wantHas(t, r, 1, 0, true)
	wantHas(t, r, 1, 1, false)

	r, e = roster.Next(r)
	r = must(t, r, e)
	wantState(t, r, optimal)
	wantNext(t, r, api.Roster{}, api.ErrState)

	r, _ = roster.Lose(r, 0)
	r, _ = roster.Lose(r, 1)
	wantState(t, r, failed)
}

// P10.1 (New, May, Has, Missing, Heals): from here on.

func TestNew(t *testing.T) {
	for _, g := range geometries() {
		wantNew(t, g, api.Roster{Geo: g}, api.OK)
	}
	for _, g := range noGeometries() {
		wantNew(t, g, api.Roster{}, api.ErrArg)
	}
}

// Each number of members, of stripes and of rings, within and without.
func TestOfEachGeometry(t *testing.T) {
	for members := -1; members <= 20; members++ {
		for stripes := -1; stripes <= 70; stripes++ {
			for _, ring := range []int{0, 39, 40, 41, 255, 256, 257} {
				g := api.Geo{Members: members, Stripes: stripes, Ring: ring}
				if members < 3 || members > 16 || stripes < 1 || stripes > 64 || ring < 40 || ring > 256 {
					wantNew(t, g, api.Roster{}, api.ErrArg)
					wantMay(t, api.Roster{Geo: g}, false)
				} else {
					wantNew(t, g, api.Roster{Geo: g}, api.OK)
					wantMay(t, api.Roster{Geo: g}, true)
				}
			}
		}
	}
}

func TestMay(t *testing.T) {
	for _, r := range rosters() {
		wantMay(t, r, true)
	}
	for _, r := range noRosters() {
		wantMay(t, r, false)
	}
}

// Which rosters may be is what super says of them.
func TestMayAsSuperHasIt(t *testing.T) {
	for _, r := range append(rosters(), noRosters()...) {
		wantMay(t, r, super.May(api.Super{Id: 1, Roster: r}))
	}
}

// Each state of each of the 16: what is no member is in sync.
func TestMayOfEachState(t *testing.T) {
	for members := minMembers; members <= maxMembers; members++ {
		for m := range maxMembers {
			for state := range 256 {
				r := of(members, 3, only(uint8(state), m), 0, false)
				wantMay(t, r, state == inSync || m < members && state <= healing)
			}
		}
	}
}

// None, one and two that heal, or all; however many others are lost.
func TestMayOfSomeThatHeal(t *testing.T) {
	for many := range maxMembers + 1 {
		for _, others := range []uint8{inSync, lost} {
			var s states
			for m := range s {
				s[m] = others
				if m < many {
					s[m] = healing
				}
			}
			wantMay(t, of(maxMembers, 4, s, 0, false), many <= 1)
		}
	}
}

// Each cursor, with one that heals and with none.
func TestMayOfEachCursor(t *testing.T) {
	for _, stripes := range []int{1, 2, 4, 63, 64} {
		for _, gone := range []bool{false, true} {
			for _, cursor := range append(far(), -1, 0, 1, 2, 3, 4, 5, 62, 63, 64, 65) {
				wantMay(t, of(3, stripes, states{}, cursor, gone), cursor == 0)
				wantMay(t, of(3, stripes, states{lost}, cursor, gone), cursor == 0)
				wantMay(t, of(3, stripes, states{lost, lost, lost}, cursor, gone), cursor == 0)
				inside := cursor >= 0 && cursor < stripes
				wantMay(t, of(3, stripes, states{2: healing}, cursor, gone), inside)
				wantMay(t, of(3, stripes, states{lost, healing, lost}, cursor, gone), inside)
			}
		}
	}
}

// A member in each state, and stripes below, at and above the cursor.
func TestHasByHand(t *testing.T) {
	r := of(4, 5, states{inSync, lost, healing, inSync}, 2, false)
	for stripe := range 5 {
		wantHas(t, r, 0, stripe, true)
		wantHas(t, r, 1, stripe, false)
		wantHas(t, r, 2, stripe, []bool{true, true, false, false, false}[stripe])
		wantHas(t, r, 3, stripe, true)
	}
	wantHas(t, r, 0, -1, false)
	wantHas(t, r, 0, 5, false)
	wantHas(t, r, 2, -1, false)
	wantHas(t, r, -1, 0, false)
	wantHas(t, r, 4, 0, false)
	wantHas(t, r, 15, 0, false)
	wantHas(t, r, 16, 0, false)
}

func TestHas(t *testing.T) {
	for _, r := range rosters() {
		for m := range r.Geo.Members {
			for stripe := range r.Geo.Stripes {
				state := r.States[m]
				wantHas(t, r, m, stripe, state == inSync || state == healing && stripe < r.Cursor)
			}
		}
	}
}

// No member has a cell, and no stripe is one, that there is none of.
func TestHasOfNone(t *testing.T) {
	for _, r := range bases() {
		for _, m := range beyond(r.Geo.Members) {
			for _, stripe := range append(beyond(r.Geo.Stripes), 0, r.Geo.Stripes-1) {
				wantHas(t, r, m, stripe, false)
			}
		}
		for m := range r.Geo.Members {
			for _, stripe := range beyond(r.Geo.Stripes) {
				wantHas(t, r, m, stripe, false)
			}
		}
	}
}

func TestMissingByHand(t *testing.T) {
	for i, c := range []struct {
		s    states
		want int
	}{
		{states{}, 0},
		{states{lost}, 1},
		{states{2: healing}, 1},
		{states{lost, lost}, 2},
		{states{lost, 2: healing}, 2},
		{states{lost, lost, lost}, 3},
		{states{lost, healing, lost}, 3},
	} {
		for _, gone := range []bool{false, true} {
			if got := roster.Missing(of(3, 2, c.s, 0, gone)); got != c.want {
				t.Errorf("%d: Missing = %d; want %d", i, got, c.want)
			}
		}
	}
}

func TestMissing(t *testing.T) {
	for _, r := range rosters() {
		wantMissing(t, r, outOfOrder(r.States))
	}
}

// So many lost as there may be, from the first one on and from the last one on.
func TestMissingOfMany(t *testing.T) {
	for members := minMembers; members <= maxMembers; members++ {
		var up, down states
		for m := range members {
			up[m], down[members-1-m] = lost, lost
			wantMissing(t, of(members, 7, up, 0, false), m+1)
			wantMissing(t, of(members, 7, down, 0, true), m+1)
			wantMissing(t, of(members, 7, with(up, m, healing), 6, false), m+1)
		}
	}
}

func TestHeals(t *testing.T) {
	for _, r := range rosters() {
		m, n := healer(r.States)
		wantHeals(t, r, m, n == 1)
	}
}

// Each member that heals, wherever it is, whatever the others are and how far it is.
func TestHealsOfEachMember(t *testing.T) {
	for members := minMembers; members <= maxMembers; members++ {
		for m := range members {
			for _, cursor := range []int{0, 8} {
				wantHeals(t, of(members, 9, only(healing, m), cursor, false), m, true)
				wantHeals(t, of(members, 9, with(only(healing, m), (m+1)%members, lost), cursor, true), m, true)
			}
			wantHeals(t, of(members, 9, only(lost, m), 0, false), 0, false)
		}
		wantHeals(t, of(members, 9, states{}, 0, false), 0, false)
	}
}

// P10.2 (State): from here on.

func TestStateByHand(t *testing.T) {
	for _, c := range []struct {
		what        string
		s           states
		there, gone int
	}{
		{"all in sync", states{}, optimal, readOnly},
		{"one lost", states{1: lost}, degraded, failed},
		{"one heals", states{1: healing}, rebuilding, failed},
		{"two lost", states{lost, 2: lost}, failed, failed},
		{"one lost, one heals", states{lost, 2: healing}, failed, failed},
		{"one heals, one lost", states{healing, 2: lost}, failed, failed},
		{"all lost", states{lost, lost, lost}, failed, failed},
		{"one heals, all others lost", states{lost, healing, lost}, failed, failed},
	} {
		for _, stripes := range []int{1, 2, maxStripes} {
			if got := roster.State(of(3, stripes, c.s, 0, false)); got != c.there {
				t.Errorf("%s: State = %d; want %d", c.what, got, c.there)
			}
			if got := roster.State(of(3, stripes, c.s, 0, true)); got != c.gone {
				t.Errorf("%s, the log gone: State = %d; want %d", c.what, got, c.gone)
			}
		}
	}
}

func TestState(t *testing.T) {
	for _, r := range rosters() {
		_, heals := healer(r.States)
		missing := outOfOrder(r.States)
		switch {
		case missing > 1:
			wantState(t, r, failed)
		case missing == 1 && r.Gone:
			wantState(t, r, failed)
		case missing == 1 && heals == 1:
			wantState(t, r, rebuilding)
		case missing == 1:
			wantState(t, r, degraded)
		case r.Gone:
			wantState(t, r, readOnly)
		default:
			wantState(t, r, optimal)
		}
	}
}

// The kinds are numbered as the document's types have them.
func TestStatesNumbers(t *testing.T) {
	wantState(t, of(3, 2, states{}, 0, false), api.Optimal)
	wantState(t, of(3, 2, states{lost}, 0, false), api.Degraded)
	wantState(t, of(3, 2, states{healing}, 1, false), api.Rebuilding)
	wantState(t, of(3, 2, states{}, 0, true), api.ReadOnly)
	wantState(t, of(3, 2, states{lost, lost}, 0, false), api.Failed)
}

// P10.3 (Lose, Begin, Next, Gone): from here on.

func TestLoseByHand(t *testing.T) {
	for _, gone := range []bool{false, true} {
		all := of(3, 4, states{}, 0, gone)
		wantLose(t, all, 0, of(3, 4, states{lost}, 0, gone), true)
		wantLose(t, all, 2, of(3, 4, states{2: lost}, 0, gone), true)

		one := of(3, 4, states{1: lost}, 0, gone)
		wantLose(t, one, 1, one, false)
		wantLose(t, one, 2, of(3, 4, states{1: lost, 2: lost}, 0, gone), true)

		heals := of(3, 4, states{1: healing}, 3, gone)
		wantLose(t, heals, 1, one, true)
		wantLose(t, heals, 0, of(3, 4, states{lost, healing}, 3, gone), true)

		both := of(3, 4, states{lost, healing}, 3, gone)
		wantLose(t, both, 0, both, false)
		wantLose(t, both, 1, of(3, 4, states{lost, lost}, 0, gone), true)
		wantLose(t, both, 2, of(3, 4, states{lost, healing, lost}, 3, gone), true)

		last := of(3, 4, states{lost, lost}, 0, gone)
		wantLose(t, last, 2, of(3, 4, states{lost, lost, lost}, 0, gone), true)
	}
}

func TestLose(t *testing.T) {
	for _, r := range rosters() {
		for m := range r.Geo.Members {
			want := r
			want.States[m] = lost
			if r.States[m] == healing {
				want.Cursor = 0
			}
			wantLose(t, r, m, want, r.States[m] != lost)
		}
	}
}

func TestLoseOfNoMember(t *testing.T) {
	for _, r := range bases() {
		for _, m := range beyond(r.Geo.Members) {
			wantLose(t, r, m, r, false)
		}
		for m := r.Geo.Members; m <= maxMembers; m++ {
			wantLose(t, r, m, r, false)
		}
	}
}

func TestBeginByHand(t *testing.T) {
	one := of(3, 4, states{1: lost}, 0, false)
	wantBegin(t, one, 1, of(3, 4, states{1: healing}, 0, false), api.OK)
	wantBegin(t, of(3, 1, states{2: lost}, 0, false), 2, of(3, 1, states{2: healing}, 0, false), api.OK)
	for i, c := range []struct {
		r      api.Roster
		member int
	}{
		{one, 0},
		{one, 2},
		{of(3, 4, states{}, 0, false), 1},
		{of(3, 4, states{1: healing}, 0, false), 1},
		{of(3, 4, states{1: healing}, 3, false), 1},
		{of(3, 4, states{1: healing}, 3, false), 0},
		{of(3, 4, states{lost, lost}, 0, false), 1},
		{of(3, 4, states{lost, healing}, 0, false), 0},
		{of(3, 4, states{lost, healing}, 2, false), 0},
		{of(3, 4, states{lost, healing}, 2, false), 1},
		{of(3, 4, states{lost, lost, lost}, 0, false), 0},
		{of(3, 4, states{1: lost}, 0, true), 1},
		{of(3, 4, states{}, 0, true), 1},
		{of(3, 4, states{1: healing}, 1, true), 1},
	} {
		if got, e := roster.Begin(c.r, c.member); got != (api.Roster{}) || e != api.ErrState {
			t.Errorf("%d: Begin = %+v, %v; want none, ErrState", i, got, e)
		}
	}
}

func TestBegin(t *testing.T) {
	for _, r := range rosters() {
		for m := range r.Geo.Members {
			if r.States[m] != lost || outOfOrder(r.States) != 1 || r.Gone {
				wantBegin(t, r, m, api.Roster{}, api.ErrState)
				continue
			}
			want := r
			want.States[m] = healing
			wantBegin(t, r, m, want, api.OK)
		}
	}
}

// ErrArg comes ahead of ErrState: of no member, whatever the roster is.
func TestBeginOfNoMember(t *testing.T) {
	for _, r := range bases() {
		for _, m := range beyond(r.Geo.Members) {
			wantBegin(t, r, m, api.Roster{}, api.ErrArg)
		}
		for m := r.Geo.Members; m <= maxMembers; m++ {
			wantBegin(t, r, m, api.Roster{}, api.ErrArg)
		}
	}
}

// From 0 on to the last stripe, and behind it: whatever else is out of order.
func TestNextFromFirstToLast(t *testing.T) {
	for _, members := range []int{minMembers, maxMembers} {
		for _, stripes := range []int{1, 2, 3, 63, maxStripes} {
			for _, gone := range []bool{false, true} {
				for m := range members {
					for _, others := range []states{{}, only(lost, (m+1)%members)} {
						heals := with(others, m, healing)
						for cursor := range stripes - 1 {
							wantNext(t, of(members, stripes, heals, cursor, gone), of(members, stripes, heals, cursor+1, gone), api.OK)
						}
						whole := of(members, stripes, others, 0, gone)
						wantNext(t, of(members, stripes, heals, stripes-1, gone), whole, api.OK)
						wantNext(t, whole, api.Roster{}, api.ErrState)
					}
				}
			}
		}
	}
}

func TestNext(t *testing.T) {
	for _, r := range rosters() {
		m, n := healer(r.States)
		want := r
		switch {
		case n == 0:
			wantNext(t, r, api.Roster{}, api.ErrState)
			continue
		case r.Cursor == r.Geo.Stripes-1:
			want.States[m], want.Cursor = inSync, 0
		default:
			want.Cursor = r.Cursor + 1
		}
		wantNext(t, r, want, api.OK)
	}
}

func TestGone(t *testing.T) {
	for _, r := range rosters() {
		for _, gone := range []bool{false, true} {
			want := r
			want.Gone = gone
			wantGone(t, r, gone, want, api.OK)
		}
	}
}

func TestGoneByHand(t *testing.T) {
	for _, s := range []states{{}, {lost}, {1: healing}, {lost, healing}, {lost, lost, lost}} {
		there, gone := of(3, 2, s, 0, false), of(3, 2, s, 0, true)
		wantGone(t, there, true, gone, api.OK)
		wantGone(t, there, false, there, api.OK)
		wantGone(t, gone, true, gone, api.OK)
		wantGone(t, gone, false, there, api.OK)
	}
}

// A roster that may not be: no, 0, no, as it is and no, ErrArg, ahead of all else.
func TestOfNoRoster(t *testing.T) {
	for _, r := range noRosters() {
		wantMay(t, r, false)
		wantMissing(t, r, 0)
		wantState(t, r, 0)
		wantHeals(t, r, 0, false)
		for _, m := range []int{math.MinInt, -1, 0, 1, 2, 3, 8, 15, 16, math.MaxInt} {
			for _, stripe := range []int{math.MinInt, -1, 0, 1, 63, 64, math.MaxInt} {
				wantHas(t, r, m, stripe, false)
			}
			wantLose(t, r, m, r, false)
			wantBegin(t, r, m, api.Roster{}, api.ErrArg)
		}
		wantNext(t, r, api.Roster{}, api.ErrArg)
		wantGone(t, r, false, api.Roster{}, api.ErrArg)
		wantGone(t, r, true, api.Roster{}, api.ErrArg)
	}
}

// Of no roster, whatever may be wrong with it, by hand.
func TestOfNoRosterByHand(t *testing.T) {
	for _, r := range []api.Roster{
		of(2, 4, states{}, 0, false),
		of(17, 4, states{}, 0, false),
		of(3, 0, states{healing}, 0, false),
		of(3, 65, states{}, 0, false),
		{Geo: api.Geo{Members: 3, Stripes: 4, Ring: 39}},
		{Geo: api.Geo{Members: 3, Stripes: 4, Ring: 257}},
		of(3, 4, states{1: noState}, 0, false),
		of(3, 4, states{3: lost}, 0, false),
		of(3, 4, states{15: healing}, 0, false),
		of(3, 4, states{healing, 2: healing}, 1, false),
		of(3, 4, states{healing}, -1, false),
		of(3, 4, states{healing}, 4, false),
		of(3, 4, states{lost}, 1, false),
		of(3, 4, states{}, 3, false),
	} {
		wantMay(t, r, false)
		wantHas(t, r, 0, 0, false)
		wantHas(t, r, 2, 0, false)
		wantMissing(t, r, 0)
		wantState(t, r, 0)
		wantHeals(t, r, 0, false)
		wantLose(t, r, 2, r, false)
		wantBegin(t, r, 0, api.Roster{}, api.ErrArg)
		wantNext(t, r, api.Roster{}, api.ErrArg)
		wantGone(t, r, true, api.Roster{}, api.ErrArg)
	}
}

// P10.4 (what follows): from here on.

// Each member lost, and healed by as many steps as there are stripes, of each geometry.
func TestLoseThenHeal(t *testing.T) {
	for _, g := range geometries() {
		was, e := roster.New(g)
		was = must(t, was, e)
		for m := range g.Members {
			r, _ := roster.Lose(was, m)
			r, e := roster.Begin(r, m)
			r = must(t, r, e)
			for step := range g.Stripes {
				wantState(t, r, rebuilding)
				wantHeals(t, r, m, true)
				if r.Cursor != step {
					t.Fatalf("%+v: step %d: Cursor is %d", g, step, r.Cursor)
				}
				r, e = roster.Next(r)
				r = must(t, r, e)
			}
			if r != was {
				t.Errorf("%+v: member %d healed: %+v; want %+v", g, m, r, was)
			}
		}
	}
}

// One member behind the other, on and on: it is as it was each time.
func TestHealEachInTurn(t *testing.T) {
	was, e := roster.New(api.Geo{Members: 5, Stripes: 7, Ring: 99})
	r := must(t, was, e)
	for turn := range 20 {
		m := turn * 3 % 5
		r, _ = roster.Lose(r, m)
		r, e = roster.Begin(r, m)
		r = must(t, r, e)
		for range 7 {
			r, e = roster.Next(r)
			r = must(t, r, e)
		}
		if r != was {
			t.Fatalf("turn %d: %+v; want %+v", turn, r, was)
		}
	}
}

// What fails while it heals begins from 0 on again.
func TestHealThatIsLost(t *testing.T) {
	for at := range 6 {
		r := of(4, 6, states{1: healing}, at, false)
		r, _ = roster.Lose(r, 1)
		wantHas(t, r, 1, 0, false)
		r, e := roster.Begin(r, 1)
		r = must(t, r, e)
		wantHas(t, r, 1, 0, false)
		for range 6 {
			r, e = roster.Next(r)
			r = must(t, r, e)
		}
		if r != of(4, 6, states{}, 0, false) {
			t.Errorf("lost at %d: %+v", at, r)
		}
	}
}

// A step gives the cell at the cursor, of the one that heals, and no other; it takes none.
func TestNextGivesOneCell(t *testing.T) {
	for _, r := range rosters() {
		m, n := healer(r.States)
		if n == 0 {
			continue
		}
		now, e := roster.Next(r)
		had, has := cells(r), cells(must(t, now, e))
		at := api.Place{Stripe: r.Cursor, Member: m}
		if had[at] || !has[at] || len(has) != len(had)+1 {
			t.Errorf("Next(%+v): %d cells, then %d; at %+v %v, then %v", r, len(had), len(has), at, had[at], has[at])
		}
		for p := range had {
			if !has[p] {
				t.Errorf("Next(%+v): %+v is not there any more", r, p)
			}
		}
	}
}

// What is answered of a roster that may be, may be.
func TestAnswersMayBe(t *testing.T) {
	for _, r := range rosters() {
		for m := range r.Geo.Members {
			now, _ := roster.Lose(r, m)
			wantMay(t, now, true)
			if now, e := roster.Begin(r, m); e == api.OK {
				wantMay(t, now, true)
			}
		}
		if now, e := roster.Next(r); e == api.OK {
			wantMay(t, now, true)
		}
		for _, gone := range []bool{false, true} {
			now, _ := roster.Gone(r, gone)
			wantMay(t, now, true)
		}
	}
}

// The rules that hold everywhere: from here on.

// What is handed in stays, and a change of an answer changes no other one.
func TestArgumentsStay(t *testing.T) {
	for _, r := range append(rosters(), noRosters()...) {
		was := r
		roster.May(r)
		roster.Has(r, 0, 0)
		roster.Missing(r)
		roster.State(r)
		roster.Heals(r)
		for _, m := range []int{0, 1, 2, 3} {
			now, _ := roster.Lose(r, m)
			now.States[2], now.Cursor = noState, -1
			now, _ = roster.Begin(r, m)
			now.States[2], now.Cursor = noState, -1
		}
		now, _ := roster.Next(r)
		now.States[2], now.Cursor = noState, -1
		now, _ = roster.Gone(r, !r.Gone)
		now.States[2], now.Cursor = noState, -1
		if r != was {
			t.Errorf("%+v was handed in; it is %+v", was, r)
		}
	}
}

// What a call answers hangs on what it was given alone.
func TestAnswersAgain(t *testing.T) {
	r := of(3, 4, states{lost}, 0, false)
	for range 3 {
		wantBegin(t, r, 0, of(3, 4, states{healing}, 0, false), api.OK)
		wantLose(t, r, 1, of(3, 4, states{lost, lost}, 0, false), true)
		wantNew(t, small, api.Roster{Geo: small}, api.OK)
		wantNext(t, r, api.Roster{}, api.ErrState)
		wantGone(t, r, true, of(3, 4, states{lost}, 0, true), api.OK)
		wantState(t, r, degraded)
		wantHas(t, r, 0, 0, false)
		wantHas(t, r, 1, 3, true)
		wantNew(t, api.Geo{}, api.Roster{}, api.ErrArg)
	}
}
