package hull_test

import (
	"math"
	"strconv"
	"testing"

	"ashlar/api"
	"ashlar/bench"
	"ashlar/hull"
	"ashlar/super"
)

// The document's numbers, written out, so that a part that stands elsewhere is told.
const (
	size     = 64
	supers   = 2
	top      = 2305843009213693952
	greatest = 1<<64 - 1
)

// id is the number of the array whose members the tests' hulls are.
const id = 0x0102030405060708

// small is the geometry of most tests: three members, two stripes.
var small = geo(3, 2, 40)

func geo(members, stripes, ring int) api.Geo {
	return api.Geo{Members: members, Stripes: stripes, Ring: ring}
}

// some is a block that is another one for each seed.
func some(seed int) api.Block {
	var b api.Block
	roll := dice(seed)
	for i := range b {
		b[i] = byte(roll(256))
	}
	return b
}

// full is a block of one byte.
func full(c byte) (b api.Block) {
	for i := range b {
		b[i] = c
	}
	return b
}

// dice answers numbers from 0 to below a bound, the same ones for the same seed.
func dice(seed int) func(bound int) int {
	n := uint32(seed)*2654435761 + 12345
	return func(bound int) int {
		n = n*1664525 + 1013904223
		return int(n>>8) % bound
	}
}

// members is a roster whose members are as the letters say: i in sync, l lost, h healing.
func members(g api.Geo, letters string, cursor int, gone bool) api.Roster {
	r := api.Roster{Geo: g, Cursor: cursor, Gone: gone}
	for m, letter := range letters {
		switch letter {
		case 'l':
			r.States[m] = api.Lost
		case 'h':
			r.States[m] = api.Healing
		}
	}
	return r
}

// small3 is a roster of the small geometry, with the log there.
func small3(letters string, cursor int) api.Roster { return members(small, letters, cursor, false) }

// devices are the sizes of an array's devices, none with a sector more than it needs.
func devices(g api.Geo) []int {
	var l []int
	for range g.Members {
		l = append(l, supers+g.Stripes)
	}
	return append(l, 10+g.Ring)
}

func newBench(t *testing.T, sizes []int) *bench.Bench {
	t.Helper()
	b, e := bench.New(sizes)
	wantOK(t, "bench.New", e)
	return b
}

// filled is a bench for an array: no superblock stands there, each stripe's cell is
// another block, and all is sure.
func filled(t *testing.T, g api.Geo) *bench.Bench {
	t.Helper()
	b := newBench(t, devices(g))
	for d := range b.Devices() {
		for n := supers; n < b.Sectors(d); n++ {
			write(t, b, d, n, some(100*d+n))
		}
	}
	return b
}

// write writes a sector, and makes it sure.
func write(t *testing.T, b *bench.Bench, d, n int, x api.Block) {
	t.Helper()
	wantOK(t, "bench.Write", b.Write(d, n, x))
	wantOK(t, "bench.Flush", b.Flush(d))
}

// read is what is read of a sector.
func read(t *testing.T, b *bench.Bench, d, n int) api.Block {
	t.Helper()
	x, e := b.Read(d, n)
	wantOK(t, "bench.Read", e)
	return x
}

// sure is what is sure of a sector.
func sure(t *testing.T, b *bench.Bench, d, n int) api.Block {
	t.Helper()
	x, e := b.Sure(d, n)
	wantOK(t, "bench.Sure", e)
	return x
}

func fail(t *testing.T, b *bench.Bench, dead ...int) {
	t.Helper()
	for _, d := range dead {
		wantOK(t, "bench.Fail", b.Fail(d))
	}
}

// darken cuts the power of a bench, without anything written.
func darken(t *testing.T, b *bench.Bench) {
	t.Helper()
	wantOK(t, "bench.Arm", b.Arm(1))
	want(t, "bench.Flush", b.Flush(b.Devices()-1), api.ErrPower)
}

// sector is that of a superblock.
func sector(t *testing.T, event uint64, s api.Super) api.Block {
	t.Helper()
	b, e := super.Put(event, s)
	wantOK(t, "super.Put", e)
	return b
}

// made is a hull, of event 0.
func made(t *testing.T, b *bench.Bench, r api.Roster) *hull.Hull { return madeOf(t, b, 0, r) }

func madeOf(t *testing.T, b *bench.Bench, event uint64, r api.Roster) *hull.Hull {
	t.Helper()
	h, e := hull.New(b, id, event, r)
	wantOK(t, "New", e)
	if h == nil {
		t.Fatal("New = nil beside OK")
	}
	return h
}

func want(t *testing.T, what string, got, want api.Errno) {
	t.Helper()
	if got != want {
		t.Fatalf("%s = %d, want %d", what, got, want)
	}
}

func wantOK(t *testing.T, what string, e api.Errno) {
	t.Helper()
	want(t, what, e, api.OK)
}

// wantNone says that no hull is made, but an error answered.
func wantNone(t *testing.T, what string, b *bench.Bench, number, event uint64, r api.Roster, e api.Errno) {
	t.Helper()
	h, got := hull.New(b, number, event, r)
	want(t, what, got, e)
	if h != nil {
		t.Fatalf("%s = a hull beside the error %d", what, e)
	}
}

func wantRead(t *testing.T, h *hull.Hull, stripe, member int, x api.Block) {
	t.Helper()
	got, e := h.Read(api.Place{Stripe: stripe, Member: member})
	wantOK(t, "Read", e)
	if got != x {
		t.Fatalf("Read(%d %d) = %x, want %x", stripe, member, got, x)
	}
}

func wantNoRead(t *testing.T, what string, h *hull.Hull, stripe, member int, e api.Errno) {
	t.Helper()
	got, is := h.Read(api.Place{Stripe: stripe, Member: member})
	want(t, what, is, e)
	if got != (api.Block{}) {
		t.Fatalf("%s: Read(%d %d) = %x beside the error %d", what, stripe, member, got, e)
	}
}

func wantWrite(t *testing.T, what string, h *hull.Hull, stripe, member int, x api.Block, e api.Errno) {
	t.Helper()
	want(t, what, h.Write(api.Place{Stripe: stripe, Member: member}, x), e)
}

// wantTold says what a hull tells of itself.
func wantTold(t *testing.T, what string, h *hull.Hull, event uint64, r api.Roster, state int) {
	t.Helper()
	if h.Event() != event || h.Roster() != r || h.State() != state || h.Id() != id {
		t.Fatalf("%s: Event, Roster, State, Id = %d %v %d %x, want %d %v %d", what, h.Event(), h.Roster(), h.State(), h.Id(), event, r, state)
	}
}

// wantSame says that two benches have the same sectors, also the same that are sure,
// are dead and dark alike, and did as many steps.
func wantSame(t *testing.T, what string, a, b *bench.Bench) {
	t.Helper()
	if a.Steps() != b.Steps() || a.Dark() != b.Dark() {
		t.Fatalf("%s: Steps, Dark = %d %t, want %d %t", what, a.Steps(), a.Dark(), b.Steps(), b.Dark())
	}
	for d := range b.Devices() {
		for n := range b.Sectors(d) {
			x, e := a.Read(d, n)
			y, f := b.Read(d, n)
			if x != y || e != f {
				t.Fatalf("%s: sector %d of device %d is read as %x, %d, want %x, %d", what, n, d, x, e, y, f)
			}
			x, e = a.Sure(d, n)
			y, f = b.Sure(d, n)
			if x != y || e != f {
				t.Fatalf("%s: sector %d of device %d is for sure %x, %d, want %x, %d", what, n, d, x, e, y, f)
			}
		}
	}
}

// wantSupers says what stands for sure in a member's two sectors.
func wantSupers(t *testing.T, what string, b *bench.Bench, member int, first, second api.Block) {
	t.Helper()
	for n, x := range []api.Block{first, second} {
		if got := sure(t, b, member, n); got != x {
			t.Fatalf("%s: sector %d of the member %d is %x, want %x", what, n, member, got, x)
		}
	}
}

// wantNewest says of the newest superblock of each member that is not lost that it is
// the hull's, as it is read and as it is sure (P18.4).
func wantNewest(t *testing.T, what string, b *bench.Bench, h *hull.Hull) {
	t.Helper()
	r := h.Roster()
	for m := range r.Geo.Members {
		if r.States[m] == api.Lost {
			continue
		}
		for _, of := range []func(d, n int) (api.Block, api.Errno){b.Read, b.Sure} {
			x, e := of(m, 0)
			wantOK(t, what, e)
			y, e := of(m, 1)
			wantOK(t, what, e)
			event, s, e := super.Newest(x, y)
			wantOK(t, what+": super.Newest", e)
			if event != h.Event() || s != (api.Super{Id: h.Id(), Self: m, Roster: r}) {
				t.Fatalf("%s: of the member %d the newest is %d %v, want %d %v", what, m, event, s, h.Event(), r)
			}
		}
	}
}

// model is a hull by the document's words, upon a bench of its own.
type model struct {
	b           *bench.Bench
	event, used uint64
	r           api.Roster
}

func (m *model) out() int {
	out := 0
	for _, s := range m.r.States {
		if s != api.InSync {
			out++
		}
	}
	return out
}

// heals is the member that heals; -1, if none does.
func (m *model) heals() int {
	for i, s := range m.r.States {
		if s == api.Healing {
			return i
		}
	}
	return -1
}

func (m *model) state() int {
	out := m.out()
	if out > 1 || out == 1 && m.r.Gone {
		return api.Failed
	}
	if m.r.Gone {
		return api.ReadOnly
	}
	if m.heals() >= 0 {
		return api.Rebuilding
	}
	if out == 1 {
		return api.Degraded
	}
	return api.Optimal
}

func (m *model) failed() bool { return m.state() == api.Failed }

func (m *model) has(p api.Place) bool {
	s := m.r.States[p.Member]
	return s == api.InSync || s == api.Healing && p.Stripe < m.r.Cursor
}

func (m *model) lost(member int) {
	if m.r.States[member] == api.Healing {
		m.r.Cursor = 0
	}
	m.r.States[member] = api.Lost
}

// save saves the roster. If the power is cut, it is the one that it was ahead of the call.
func (m *model) save(was api.Roster) api.Errno {
	for event := m.used + 1; ; event++ {
		switch m.laid(event) {
		case api.OK:
			m.event, m.used = event, event
			return api.OK
		case api.ErrPower:
			m.r = was
			return api.ErrPower
		}
	}
}

// laid writes the superblocks of an event; ErrDead, if it has to begin anew.
func (m *model) laid(event uint64) api.Errno {
	for i := 0; i < m.r.Geo.Members; i++ {
		if m.r.States[i] == api.Lost {
			continue
		}
		e := m.one(event, i)
		if e == api.ErrDead {
			m.lost(i)
		}
		if e != api.OK {
			return e
		}
	}
	return api.OK
}

func (m *model) one(event uint64, i int) api.Errno {
	x, e := m.b.Read(i, 0)
	if e != api.OK {
		return e
	}
	y, e := m.b.Read(i, 1)
	if e != api.OK {
		return e
	}
	next, e := super.Put(event, api.Super{Id: id, Self: i, Roster: m.r})
	if e != api.OK {
		return e
	}
	// Where the newest does not stand; the first one, if there is none.
	at := 0
	first, _, e := super.Get(x)
	second, _, f := super.Get(y)
	if e == api.OK && (f != api.OK || first >= second) {
		at = 1
	}
	if e := m.b.Write(i, at, next); e != api.OK {
		return e
	}
	m.used = event
	return m.b.Flush(i)
}

// found makes of ErrDead what it means: the member is found dead.
func (m *model) found(member int, e api.Errno) api.Errno {
	if e != api.ErrDead {
		return e
	}
	was := m.r
	m.lost(member)
	if e := m.save(was); e != api.OK {
		return e
	}
	if m.failed() {
		return api.ErrFailed
	}
	return api.ErrNone
}

// place is why there is nothing to be read or written at a place.
func (m *model) place(p api.Place) api.Errno {
	if p.Stripe < 0 || p.Stripe >= m.r.Geo.Stripes || p.Member < 0 || p.Member >= m.r.Geo.Members {
		return api.ErrArg
	}
	if m.failed() {
		return api.ErrFailed
	}
	if !m.has(p) {
		return api.ErrNone
	}
	return api.OK
}

func (m *model) Read(p api.Place) (api.Block, api.Errno) {
	if e := m.place(p); e != api.OK {
		return api.Block{}, e
	}
	x, e := m.b.Read(p.Member, supers+p.Stripe)
	return x, m.found(p.Member, e)
}

func (m *model) Write(p api.Place, x api.Block) api.Errno {
	e := m.place(p)
	if e == api.OK {
		e = m.found(p.Member, m.b.Write(p.Member, supers+p.Stripe, x))
	}
	if e == api.ErrNone {
		return api.OK
	}
	return e
}

func (m *model) Flush() api.Errno {
	if m.failed() {
		return api.ErrFailed
	}
	for i := 0; i < m.r.Geo.Members; i++ {
		if m.r.States[i] == api.Lost {
			continue
		}
		if m.found(i, m.b.Flush(i)) == api.ErrPower {
			return api.ErrPower
		}
	}
	if m.failed() {
		return api.ErrFailed
	}
	return api.OK
}

func (m *model) Fill(x api.Block) api.Errno {
	if m.failed() {
		return api.ErrFailed
	}
	i := m.heals()
	if i < 0 {
		return api.ErrState
	}
	if e := m.found(i, m.b.Write(i, supers+m.r.Cursor, x)); e != api.OK {
		return e
	}
	m.r.Cursor++
	if m.r.Cursor == m.r.Geo.Stripes {
		m.r.States[i], m.r.Cursor = api.InSync, 0
	}
	return api.OK
}

func (m *model) Save() api.Errno { return m.save(m.r) }

func (m *model) Find(member int) api.Errno {
	if member < 0 || member >= m.r.Geo.Members {
		return api.ErrArg
	}
	if m.r.States[member] != api.Lost && m.b.Dead(member) {
		was := m.r
		m.lost(member)
		return m.save(was)
	}
	return api.OK
}

func (m *model) Begin(member int) api.Errno {
	if member < 0 || member >= m.r.Geo.Members {
		return api.ErrArg
	}
	if m.r.States[member] != api.Lost || m.out() != 1 || m.r.Gone {
		return api.ErrState
	}
	m.r.States[member] = api.Healing
	return api.OK
}

func (m *model) Gone(gone bool) api.Errno {
	m.r.Gone = gone
	return api.OK
}

// asked is what may be asked of a hull, and of its model.
type asked interface {
	Read(p api.Place) (api.Block, api.Errno)
	Write(p api.Place, x api.Block) api.Errno
	Fill(x api.Block) api.Errno
	Flush() api.Errno
	Save() api.Errno
	Find(member int) api.Errno
	Begin(member int) api.Errno
	Gone(gone bool) api.Errno
}

// try is one call; it answers the call's block, if it has one, and its error.
type try struct {
	name string
	do   func(h asked) (api.Block, api.Errno)
}

// act is a call that answers an error alone.
func act(name string, do func(h asked) api.Errno) try {
	return try{name, func(h asked) (api.Block, api.Errno) { return api.Block{}, do(h) }}
}

func reading(stripe, member int) try {
	p := api.Place{Stripe: stripe, Member: member}
	return try{"Read " + strconv.Itoa(stripe) + " " + strconv.Itoa(member), func(h asked) (api.Block, api.Errno) { return h.Read(p) }}
}

func writing(stripe, member, seed int) try {
	p := api.Place{Stripe: stripe, Member: member}
	return act("Write "+strconv.Itoa(stripe)+" "+strconv.Itoa(member), func(h asked) api.Errno { return h.Write(p, some(seed)) })
}

func filling(seed int) try {
	return act("Fill", func(h asked) api.Errno { return h.Fill(some(seed)) })
}

func flushing() try { return act("Flush", asked.Flush) }

func saving() try { return act("Save", asked.Save) }

func finding(member int) try {
	return act("Find "+strconv.Itoa(member), func(h asked) api.Errno { return h.Find(member) })
}

func beginning(member int) try {
	return act("Begin "+strconv.Itoa(member), func(h asked) api.Errno { return h.Begin(member) })
}

func going(gone bool) try {
	return act("Gone "+strconv.FormatBool(gone), func(h asked) api.Errno { return h.Gone(gone) })
}

// all are calls of each kind, of each place and member, there or not.
func all(g api.Geo) []try {
	l := []try{saving(), flushing(), filling(1), going(true), going(false)}
	for m := -1; m <= g.Members; m++ {
		l = append(l, finding(m), beginning(m))
		for s := -1; s <= g.Stripes; s++ {
			l = append(l, reading(s, m), writing(s, m, 10*s+m+50))
		}
	}
	return l
}

// pair is a hull and its model, each upon a bench of its own that is the same.
type pair struct {
	b *bench.Bench
	h *hull.Hull
	m *model
}

func paired(t *testing.T, b *bench.Bench, event uint64, r api.Roster) pair {
	t.Helper()
	b = b.Copy()
	return pair{b, madeOf(t, b, event, r), &model{b: b.Copy(), event: event, used: event, r: r}}
}

// wantLike does the same of both, and says that both answer the same, and are the same behind it.
func (p pair) wantLike(t *testing.T, what string, do try) api.Errno {
	t.Helper()
	what += ": " + do.name
	x, e := do.do(p.h)
	y, f := do.do(p.m)
	if x != y || e != f {
		t.Fatalf("%s = %x, %d, want %x, %d", what, x, e, y, f)
	}
	wantTold(t, what, p.h, p.m.event, p.m.r, p.m.state())
	wantSame(t, what, p.b, p.m.b)
	return e
}

// both does something of both benches.
func (p pair) both(t *testing.T, do func(b *bench.Bench) api.Errno) {
	t.Helper()
	if e, f := do(p.b), do(p.m.b); e != f {
		t.Fatalf("of the benches %d, %d", e, f)
	}
}

// rosters are all that may be of a geometry of three members.
func rosters(g api.Geo) []api.Roster {
	var l []api.Roster
	for n := range 27 {
		letters, heal := "", 0
		for i := n; len(letters) < 3; i /= 3 {
			letters += "ilh"[i%3 : i%3+1]
			if i%3 == 2 {
				heal++
			}
		}
		for cursor := range g.Stripes {
			if heal > 1 || heal == 0 && cursor > 0 {
				continue
			}
			l = append(l, members(g, letters, cursor, false), members(g, letters, cursor, true))
		}
	}
	return l
}

// subset are the members that a number's bits tell.
func subset(g api.Geo, n int) []int {
	var l []int
	for m := range g.Members {
		if n>>m&1 == 1 {
			l = append(l, m)
		}
	}
	return l
}

// tell is a text that tells a situation.
func tell(r api.Roster, dead []int) string {
	s := ""
	for m := range r.Geo.Members {
		s += "ilh"[r.States[m] : r.States[m]+1]
	}
	s += " cursor " + strconv.Itoa(r.Cursor)
	if r.Gone {
		s += ", gone"
	}
	for _, d := range dead {
		s += ", dead " + strconv.Itoa(d)
	}
	return s
}

// The chapter's examples.

func TestExamples(t *testing.T) {
	b := newBench(t, devices(small))
	h := made(t, b, small3("iii", 0))
	wantOK(t, "Save", h.Save())
	if h.Event() != 1 {
		t.Fatalf("Event = %d", h.Event())
	}
	wantWrite(t, "Write(0 1, aa)", h, 0, 1, full(0xaa), api.OK)
	fail(t, b, 1)
	wantNoRead(t, "Read(0 1)", h, 0, 1, api.ErrNone)
	if h.State() != api.Degraded || h.Event() != 2 {
		t.Fatalf("State, Event = %d %d", h.State(), h.Event())
	}
	wantWrite(t, "Write(0 1, bb)", h, 0, 1, full(0xbb), api.OK)
	wantNoRead(t, "Read(2 0)", h, 2, 0, api.ErrArg)
	want(t, "Fill", h.Fill(full(1)), api.ErrState)
}

// P18.1: New.

func TestNewTakes(t *testing.T) {
	for _, number := range []uint64{1, 2, 255, 256, 1 << 32, 1 << 62, 1 << 63, greatest - 1, greatest} {
		h, e := hull.New(filled(t, small), number, 0, small3("iii", 0))
		wantOK(t, "New", e)
		if h.Id() != number {
			t.Fatalf("Id = %d, want %d", h.Id(), number)
		}
	}
	for _, event := range []uint64{0, 1, 2, 1 << 32, top - 1, top} {
		h := madeOf(t, filled(t, small), event, small3("iii", 0))
		wantTold(t, "New", h, event, small3("iii", 0), api.Optimal)
	}
	for _, r := range rosters(small) {
		b := filled(t, small)
		is := model{r: r}
		wantTold(t, tell(r, nil), made(t, b, r), 0, r, is.state())
	}
	for _, g := range []api.Geo{geo(3, 1, 40), geo(3, 64, 256), geo(4, 3, 41), geo(15, 2, 40), geo(16, 1, 40), geo(16, 64, 256)} {
		for _, letters := range []string{"", "l", "ih", "ll"} {
			r := members(g, letters, 0, false)
			is := model{r: r}
			wantTold(t, tell(r, nil), made(t, filled(t, g), r), 0, r, is.state())
		}
	}
	// What lies behind the stripes is nothing that the hull asks for, nor how great the log is.
	made(t, newBench(t, []int{4, 5, 512, 1}), small3("iii", 0))
}

// What New takes, it takes without a step, whatever stands there; also of devices
// that are dead, and in the dark.
func TestNewWritesNothing(t *testing.T) {
	for _, r := range rosters(small) {
		b := filled(t, small)
		write(t, b, 0, 0, sector(t, 9, api.Super{Id: id, Roster: r}))
		wantOK(t, "bench.Write", b.Write(1, 1, some(5)))
		was := b.Copy()
		wantOK(t, "bench.Arm", b.Arm(1))
		made(t, b, r)
		wantOK(t, "bench.Arm", b.Arm(0))
		wantSame(t, "New", b, was)
		fail(t, b, 0, 1, 2, 3)
		was = b.Copy()
		made(t, b, r)
		wantSame(t, "New of dead ones", b, was)
	}
	b := filled(t, small)
	darken(t, b)
	was := b.Copy()
	made(t, b, small3("iii", 0))
	wantOK(t, "bench.Crash", b.Crash(nil))
	wantOK(t, "bench.Crash", was.Crash(nil))
	wantSame(t, "New in the dark", b, was)
}

func TestNewRefuses(t *testing.T) {
	well := small3("iii", 0)
	b := filled(t, small)
	was := b.Copy()
	wantNone(t, "the id 0", b, 0, 0, well, api.ErrArg)
	for _, event := range []uint64{top + 1, top + 2, 2 * top, 2*top + 1, 1 << 63, greatest - 1, greatest} {
		wantNone(t, "the event "+strconv.FormatUint(event, 10), b, id, event, well, api.ErrArg)
	}
	wantSame(t, "New", b, was)
	for _, sizes := range [][]int{{4}, {4, 4}, {4, 4, 4}, {4, 4, 4, 50, 50}, {4, 4, 4, 50, 50, 50}} {
		wantNone(t, "devices "+strconv.Itoa(len(sizes)), newBench(t, sizes), id, 0, well, api.ErrArg)
	}
	for m := range small.Members {
		for _, few := range []int{1, 2, 3} {
			sizes := []int{4, 4, 4, 50}
			sizes[m] = few
			wantNone(t, "sectors of "+strconv.Itoa(m), newBench(t, sizes), id, 0, well, api.ErrArg)
		}
	}
	long := geo(3, 64, 40)
	wantNone(t, "65 sectors", newBench(t, []int{66, 66, 65, 50}), id, 0, api.Roster{Geo: long}, api.ErrArg)
	wide := geo(16, 1, 40)
	few := devices(wide)
	wantNone(t, "16 devices", newBench(t, few[1:]), id, 0, api.Roster{Geo: wide}, api.ErrArg)
	few[15] = 2
	wantNone(t, "the last member's sectors", newBench(t, few), id, 0, api.Roster{Geo: wide}, api.ErrArg)
}

// Each rule of a roster on its own.
func TestNewRefusesRosters(t *testing.T) {
	with := func(of func(r *api.Roster)) api.Roster {
		r := small3("iii", 0)
		of(&r)
		return r
	}
	for name, r := range map[string]api.Roster{
		"zero":            {},
		"no members":      with(func(r *api.Roster) { r.Geo.Members = 0 }),
		"members below 0": with(func(r *api.Roster) { r.Geo.Members = math.MinInt }),
		"2 members":       with(func(r *api.Roster) { r.Geo.Members = 2 }),
		"17 members":      with(func(r *api.Roster) { r.Geo.Members = 17 }),
		"most members":    with(func(r *api.Roster) { r.Geo.Members = math.MaxInt }),
		"no stripe":       with(func(r *api.Roster) { r.Geo.Stripes = 0 }),
		"stripes below 0": with(func(r *api.Roster) { r.Geo.Stripes = -1 }),
		"65 stripes":      with(func(r *api.Roster) { r.Geo.Stripes = 65 }),
		"most stripes":    with(func(r *api.Roster) { r.Geo.Stripes = math.MaxInt }),
		"ring 39":         with(func(r *api.Roster) { r.Geo.Ring = 39 }),
		"ring 257":        with(func(r *api.Roster) { r.Geo.Ring = 257 }),
		"ring below 0":    with(func(r *api.Roster) { r.Geo.Ring = -40 }),
		"state 3":         with(func(r *api.Roster) { r.States[1] = 3 }),
		"state 255":       with(func(r *api.Roster) { r.States[2] = 255 }),
		"what is none":    with(func(r *api.Roster) { r.States[3] = api.Lost }),
		"the last none":   with(func(r *api.Roster) { r.States[15] = api.Healing }),
		"two heal":        small3("hhi", 0),
		"cursor":          small3("iii", 1),
		"cursor, lost":    small3("ili", 1),
		"cursor -1":       small3("ihi", -1),
		"cursor 2":        small3("ihi", 2),
		"cursor greatest": small3("ihi", math.MaxInt),
		"cursor least":    small3("ihi", math.MinInt),
	} {
		for _, sizes := range [][]int{devices(small), {66, 66, 66}, {66, 66, 66, 66, 66}} {
			wantNone(t, name, newBench(t, sizes), id, 0, r, api.ErrArg)
		}
	}
	// A bench that fits a roster that may not be.
	for _, g := range []api.Geo{geo(2, 2, 40), geo(1, 2, 40), geo(0, 2, 40), geo(3, 0, 40), geo(3, -2, 40), geo(3, 65, 40), geo(3, 2, 39), geo(3, 2, 257)} {
		var sizes []int
		for range g.Members {
			sizes = append(sizes, max(1, supers+g.Stripes))
		}
		wantNone(t, "a geometry", newBench(t, append(sizes, 300)), id, 0, api.Roster{Geo: g}, api.ErrArg)
	}
}

func TestNewOfNoBench(t *testing.T) {
	for _, b := range []*bench.Bench{nil, {}} {
		for _, r := range []api.Roster{{}, small3("iii", 0), small3("iii", 1)} {
			for _, number := range []uint64{0, id} {
				for _, event := range []uint64{0, top + 1} {
					wantNone(t, "no bench", b, number, event, r, api.ErrNil)
				}
			}
		}
	}
}

// A hull that is none.

func TestNone(t *testing.T) {
	for _, h := range []*hull.Hull{nil, {}} {
		for _, do := range all(small) {
			x, e := do.do(h)
			want(t, do.name, e, api.ErrNil)
			if x != (api.Block{}) {
				t.Fatalf("%s = %x", do.name, x)
			}
		}
		for _, far := range []int{math.MinInt, math.MaxInt} {
			for _, do := range []try{reading(far, 0), reading(0, far), writing(far, 0, 1), writing(0, far, 1), finding(far), beginning(far)} {
				_, e := do.do(h)
				want(t, do.name, e, api.ErrNil)
			}
		}
		if h.Roster() != (api.Roster{}) || h.Event() != 0 || h.Id() != 0 || h.State() != 0 {
			t.Fatalf("Roster, Event, Id, State = %v %d %d %d", h.Roster(), h.Event(), h.Id(), h.State())
		}
	}
}

// P18.1: Save.

// Each event goes into the sector in which the one ahead of it does not stand, is
// sure, and nothing else is written.
func TestSaveGoesRound(t *testing.T) {
	for _, r := range []api.Roster{small3("iii", 0), small3("ihi", 1), small3("hii", 0), members(small, "iii", 0, true)} {
		b := filled(t, small)
		h := made(t, b, r)
		for event := uint64(1); event <= 5; event++ {
			was := b.Copy()
			wantOK(t, "Save", h.Save())
			if b.Steps() != was.Steps()+6 || h.Event() != event || h.Roster() != r {
				t.Fatalf("Steps, Event = %d %d, want 6 %d", b.Steps()-was.Steps(), h.Event(), event)
			}
			for m := range 3 {
				at := int(event+1) % 2
				write(t, was, m, at, sector(t, event, api.Super{Id: id, Self: m, Roster: r}))
			}
			wantSame(t, "Save", b, was)
		}
	}
}

// The steps of a Save, each of which is told by the cut at it.
func TestSaveSteps(t *testing.T) {
	r := small3("iii", 0)
	for cut := 1; cut <= 7; cut++ {
		b := filled(t, small)
		h := madeOf(t, b, 6, r)
		wantOK(t, "Save", h.Save())
		r.Gone = true
		wantOK(t, "Gone", h.Gone(true))
		lost := b.Copy()
		steps := b.Steps()
		wantOK(t, "bench.Arm", b.Arm(cut))
		e := h.Save()
		if cut == 7 {
			wantOK(t, "Save ahead of the cut", e)
		} else {
			want(t, "Save", e, api.ErrPower)
		}
		if b.Steps() != steps+cut-1 {
			t.Fatalf("at %d: %d steps", cut, b.Steps()-steps)
		}
		// Of the first (cut - 1) steps every second one is a flush.
		kept := lost.Copy()
		for m := range 3 {
			x := sector(t, 8, api.Super{Id: id, Self: m, Roster: r})
			if cut > 2*m+1 {
				write(t, kept, m, 1, x)
			}
			if cut > 2*m+2 {
				write(t, lost, m, 1, x)
			}
		}
		some := b.Copy()
		wantOK(t, "bench.Crash", b.Crash([]int{size}))
		wantOK(t, "bench.Crash", some.Crash(nil))
		for m := range 3 {
			wantSupers(t, "all kept", b, m, read(t, kept, m, 0), read(t, kept, m, 1))
			wantSupers(t, "nothing kept", some, m, read(t, lost, m, 0), read(t, lost, m, 1))
		}
		r.Gone = false
	}
}

// Where the power is cut, a hull is as it was; behind a Save that is cut at each of
// its steps, whatever is kept and torn, each member has the old superblock or the new
// one, and another Save, of another roster, is the newest.
func TestSaveCut(t *testing.T) {
	for _, saves := range []int{0, 1, 2, 3} {
		for cut := 1; cut <= 6; cut++ {
			for keep := 0; keep <= size; keep++ {
				b := filled(t, small)
				h := made(t, b, small3("iii", 0))
				for range saves {
					wantOK(t, "Save", h.Save())
				}
				was := b.Copy()
				wantOK(t, "bench.Arm", b.Arm(cut))
				want(t, "Save", h.Save(), api.ErrPower)
				wantTold(t, "cut", h, uint64(saves), small3("iii", 0), api.Optimal)
				want(t, "Save in the dark", h.Save(), api.ErrPower)
				wantOK(t, "bench.Crash", b.Crash([]int{keep}))
				wantTold(t, "behind the cut", h, uint64(saves), small3("iii", 0), api.Optimal)
				wantOldOrNew(t, b, was, uint64(saves+1))
				for _, gone := range []bool{true, false} {
					wantOK(t, "Gone", h.Gone(gone))
					wantOK(t, "Save", h.Save())
					wantNewest(t, "Save behind the cut", b, h)
				}
			}
		}
	}
}

// wantOldOrNew says that of each member the newest superblock is what it was, or that
// of an event, and that the other sector is what it was.
func wantOldOrNew(t *testing.T, b, was *bench.Bench, event uint64) {
	t.Helper()
	for m := range 3 {
		got, s, e := super.Newest(read(t, b, m, 0), read(t, b, m, 1))
		old, of, f := super.Newest(read(t, was, m, 0), read(t, was, m, 1))
		if got == event && e == api.OK && s == (api.Super{Id: id, Self: m, Roster: small3("iii", 0)}) {
			continue
		}
		if got != old || s != of || e != f {
			t.Fatalf("of the member %d the newest is %d %v %d, was %d %v %d", m, got, s, e, old, of, f)
		}
	}
}

// In the dark nothing is written, so that the next event is the one that this one
// would have been.
func TestSaveInTheDark(t *testing.T) {
	for _, letters := range []string{"iii", "lii", "ihi"} {
		b := filled(t, small)
		r := small3(letters, 0)
		h := made(t, b, r)
		wantOK(t, "Save", h.Save())
		was := b.Copy()
		darken(t, b)
		for range 3 {
			want(t, "Save", h.Save(), api.ErrPower)
			wantTold(t, "Save in the dark", h, 1, r, (&model{r: r}).state())
		}
		wantOK(t, "bench.Crash", b.Crash(nil))
		wantSame(t, "Save in the dark", b, was)
		wantOK(t, "Save", h.Save())
		wantTold(t, "Save", h, 2, r, (&model{r: r}).state())
		wantNewest(t, "Save", b, h)
	}
}

// Upon a member that is lost nothing is written, also if all are.
func TestSaveOfLost(t *testing.T) {
	for _, letters := range []string{"lii", "ili", "iil", "lhi", "lli", "lil", "ill", "lll"} {
		for _, gone := range []bool{false, true} {
			b := filled(t, small)
			r := members(small, letters, 0, gone)
			h := madeOf(t, b, 4, r)
			was := b.Copy()
			wantOK(t, "Save", h.Save())
			if h.Event() != 5 || h.Roster() != r {
				t.Fatalf("Event, Roster = %d %v", h.Event(), h.Roster())
			}
			for m, letter := range letters {
				if letter != 'l' {
					write(t, was, m, 0, sector(t, 5, api.Super{Id: id, Self: m, Roster: r}))
				}
			}
			wantSame(t, letters, b, was)
		}
	}
}

// Where members are dead, each begins all anew, with one event more; it is saved, if
// it has failed by that, too.
func TestSaveOfDead(t *testing.T) {
	for _, c := range []struct {
		letters string
		cursor  int
		dead    []int
		event   uint64
		after   string
		state   int
	}{
		{"iii", 0, nil, 11, "iii", api.Optimal},
		{"iii", 0, []int{0}, 12, "lii", api.Degraded},
		{"iii", 0, []int{1}, 12, "ili", api.Degraded},
		{"iii", 0, []int{2}, 12, "iil", api.Degraded},
		{"iii", 0, []int{0, 1}, 13, "lli", api.Failed},
		{"iii", 0, []int{1, 2}, 13, "ill", api.Failed},
		{"iii", 0, []int{0, 2}, 13, "lil", api.Failed},
		{"iii", 0, []int{0, 1, 2}, 14, "lll", api.Failed},
		{"iil", 0, []int{2}, 11, "iil", api.Degraded},
		{"iil", 0, []int{0, 2}, 12, "lil", api.Failed},
		{"iil", 0, []int{0, 1}, 13, "lll", api.Failed},
		{"lll", 0, []int{0, 1, 2}, 11, "lll", api.Failed},
		{"ihi", 1, []int{1}, 12, "ili", api.Degraded},
		{"ihi", 1, []int{2}, 12, "ihl", api.Failed},
		{"ihi", 1, []int{0, 1}, 13, "lli", api.Failed},
	} {
		b := filled(t, small)
		h := madeOf(t, b, 10, small3(c.letters, c.cursor))
		fail(t, b, c.dead...)
		wantOK(t, "Save", h.Save())
		r := small3(c.after, 0)
		if c.after == "ihl" {
			r.Cursor = c.cursor
		}
		wantTold(t, tell(small3(c.letters, c.cursor), c.dead), h, c.event, r, c.state)
		wantNewest(t, "Save", b, h)
	}
}

// What an event that had to begin anew wrote ahead of the dead member stands in the
// sector that the next one leaves.
func TestSaveBeginsAnew(t *testing.T) {
	b := filled(t, small)
	h := made(t, b, small3("iii", 0))
	steps := b.Steps()
	fail(t, b, 2)
	wantOK(t, "Save", h.Save())
	for m := range 2 {
		wantSupers(t, "begun anew", b, m, sector(t, 1, api.Super{Id: id, Self: m, Roster: small3("iii", 0)}),
			sector(t, 2, api.Super{Id: id, Self: m, Roster: small3("iil", 0)}))
	}
	if b.Steps() != steps+8 {
		t.Fatalf("%d steps", b.Steps()-steps)
	}
}

// Into which of its two sectors a superblock goes, whatever stands in them.
func TestSaveSlots(t *testing.T) {
	r := small3("iii", 0)
	mine := func(event uint64) api.Block { return sector(t, event, api.Super{Id: id, Self: 1, Roster: r}) }
	other := sector(t, 5, api.Super{Id: 9, Self: 0, Roster: api.Roster{Geo: geo(4, 1, 77)}})
	torn := mine(7)
	torn[40]++
	for _, c := range []struct {
		name          string
		first, second api.Block
		at            int
	}{
		{"none", api.Block{}, api.Block{}, 0},
		{"the first one", mine(7), api.Block{}, 1},
		{"the second one", api.Block{}, mine(7), 0},
		{"the first is newer", mine(7), mine(6), 1},
		{"the second is newer", mine(6), mine(7), 0},
		{"both the same", mine(7), mine(7), 1},
		{"the first is torn", torn, mine(6), 0},
		{"the second is torn", mine(6), torn, 1},
		{"both are torn", torn, torn, 0},
		{"noise", some(3), some(4), 0},
		{"noise behind", mine(6), some(4), 1},
		{"noise ahead", some(3), mine(6), 0},
		{"another array's ahead", other, mine(7), 0},
		{"another array's behind", mine(7), other, 1},
		{"another array's alone", other, api.Block{}, 1},
		{"another array's behind noise", some(3), other, 0},
	} {
		b := filled(t, small)
		write(t, b, 1, 0, c.first)
		write(t, b, 1, 1, c.second)
		h := madeOf(t, b, 7, r)
		wantOK(t, "Save", h.Save())
		two := [2]api.Block{c.first, c.second}
		two[c.at] = mine(8)
		wantSupers(t, c.name, b, 1, two[0], two[1])
		wantNewest(t, c.name, b, h)
	}
}

// What is read of the two sectors counts, be it sure or not.
func TestSaveSlotsOfLoose(t *testing.T) {
	b := filled(t, small)
	r := small3("iii", 0)
	write(t, b, 1, 1, sector(t, 4, api.Super{Id: id, Self: 1, Roster: r}))
	wantOK(t, "bench.Write", b.Write(1, 0, sector(t, 5, api.Super{Id: id, Self: 1, Roster: r})))
	h := madeOf(t, b, 5, r)
	wantOK(t, "Save", h.Save())
	wantSupers(t, "loose", b, 1, sector(t, 5, api.Super{Id: id, Self: 1, Roster: r}), sector(t, 6, api.Super{Id: id, Self: 1, Roster: r}))
}

func TestSaveAtTheTop(t *testing.T) {
	b := filled(t, small)
	h := madeOf(t, b, top, small3("iii", 0))
	fail(t, b, 2)
	wantOK(t, "Save", h.Save())
	wantTold(t, "Save", h, top+2, small3("iil", 0), api.Degraded)
	wantNewest(t, "Save", b, h)
}

// P18.2: Read and Write.

// Each cell stands in a sector of its own, behind the superblocks.
func TestReadAndWrite(t *testing.T) {
	for _, g := range []api.Geo{small, geo(3, 1, 40), geo(4, 5, 40), geo(16, 64, 40)} {
		b := filled(t, g)
		h := made(t, b, api.Roster{Geo: g})
		was := b.Copy()
		for s := range g.Stripes {
			for m := range g.Members {
				wantRead(t, h, s, m, some(100*m+supers+s))
			}
		}
		wantSame(t, "Read", b, was)
		for s := range g.Stripes {
			for m := range g.Members {
				wantWrite(t, "Write", h, s, m, some(-1000*s-m), api.OK)
				wantOK(t, "bench.Write", was.Write(m, supers+s, some(-1000*s-m)))
			}
		}
		wantSame(t, "Write", b, was)
		for s := range g.Stripes {
			for m := range g.Members {
				wantRead(t, h, s, m, some(-1000*s-m))
			}
		}
		wantTold(t, "Read and Write", h, 0, api.Roster{Geo: g}, api.Optimal)
	}
}

func TestNoPlace(t *testing.T) {
	far := []int{math.MinInt, math.MinInt + 1, math.MinInt32, -1 << 32, -65536, -256, -3, -2, -1,
		3, 4, 64, 65, 255, 256, 257, 65536, 1 << 31, 1 << 32, 1<<32 + 1, math.MaxInt32, math.MaxInt - 2, math.MaxInt - 1, math.MaxInt}
	for _, r := range []api.Roster{small3("iii", 0), small3("lii", 0), small3("lli", 0), small3("hii", 1), members(small, "iii", 0, true)} {
		for _, dark := range []bool{false, true} {
			b := filled(t, small)
			h := made(t, b, r)
			fail(t, b, 0)
			if dark {
				darken(t, b)
			}
			was := b.Copy()
			for _, n := range far {
				for m := range 3 {
					wantNoRead(t, "no stripe", h, n, m, api.ErrArg)
					wantWrite(t, "no stripe", h, n, m, some(1), api.ErrArg)
				}
				for s := range 2 {
					wantNoRead(t, "no member", h, s, n, api.ErrArg)
					wantWrite(t, "no member", h, s, n, some(1), api.ErrArg)
				}
				wantNoRead(t, "neither", h, n, n, api.ErrArg)
				wantWrite(t, "neither", h, n, n, some(1), api.ErrArg)
			}
			wantNoRead(t, "the stripe 2", h, 2, 1, api.ErrArg)
			wantWrite(t, "the stripe 2", h, 2, 1, some(1), api.ErrArg)
			wantSame(t, "no place", b, was)
			wantTold(t, "no place", h, 0, r, (&model{r: r}).state())
		}
	}
}

// Of what is lost, or not yet made anew, nothing is read, and nothing written.
func TestNotThere(t *testing.T) {
	long := geo(3, 4, 40)
	for cursor := range 4 {
		b := filled(t, long)
		r := members(long, "ihi", cursor, false)
		h := made(t, b, r)
		was := b.Copy()
		for s := range 4 {
			if s < cursor {
				wantRead(t, h, s, 1, some(100+supers+s))
				wantWrite(t, "Write below the Cursor", h, s, 1, some(s), api.OK)
				wantOK(t, "bench.Write", was.Write(1, supers+s, some(s)))
			} else {
				wantNoRead(t, "Read from the Cursor on", h, s, 1, api.ErrNone)
				wantWrite(t, "Write from the Cursor on", h, s, 1, some(s), api.OK)
			}
			wantRead(t, h, s, 0, some(supers+s))
		}
		wantSame(t, "healing", b, was)
		wantTold(t, "healing", h, 0, r, api.Rebuilding)
	}
	for m, letters := range []string{"lii", "ili", "iil"} {
		for _, dead := range []bool{false, true} {
			b := filled(t, small)
			h := made(t, b, small3(letters, 0))
			if dead {
				fail(t, b, m)
			}
			was := b.Copy()
			for s := range 2 {
				wantNoRead(t, "Read of a lost one", h, s, m, api.ErrNone)
				wantWrite(t, "Write of a lost one", h, s, m, some(s), api.OK)
			}
			wantSame(t, "lost", b, was)
			wantTold(t, "lost", h, 0, small3(letters, 0), api.Degraded)
		}
	}
}

func TestFailed(t *testing.T) {
	for _, r := range []api.Roster{small3("lli", 0), small3("lil", 0), small3("hil", 1), small3("lll", 0), members(small, "lii", 0, true), members(small, "ihi", 1, true)} {
		for _, dark := range []bool{false, true} {
			b := filled(t, small)
			h := made(t, b, r)
			if dark {
				fail(t, b, 0, 1)
				darken(t, b)
			}
			was := b.Copy()
			for s := range 2 {
				for m := range 3 {
					wantNoRead(t, "Read", h, s, m, api.ErrFailed)
					wantWrite(t, "Write", h, s, m, some(1), api.ErrFailed)
				}
			}
			want(t, "Flush", h.Flush(), api.ErrFailed)
			want(t, "Fill", h.Fill(some(1)), api.ErrFailed)
			wantSame(t, "failed", b, was)
			wantTold(t, "failed", h, 0, r, api.Failed)
		}
	}
}

// A log that is gone alone keeps nothing from being read and written.
func TestReadOnly(t *testing.T) {
	b := filled(t, small)
	h := made(t, b, members(small, "iii", 0, true))
	wantWrite(t, "Write", h, 1, 2, some(1), api.OK)
	wantRead(t, h, 1, 2, some(1))
	wantOK(t, "Flush", h.Flush())
	want(t, "Fill", h.Fill(some(1)), api.ErrState)
	fail(t, b, 1)
	wantNoRead(t, "Read", h, 1, 1, api.ErrFailed)
	wantTold(t, "dead", h, 1, members(small, "ili", 0, true), api.Failed)
}

// A member that is found dead is lost, and that is saved; one too many, and the state is Failed.
func TestFoundDead(t *testing.T) {
	after := []string{"lii", "ili", "iil"}
	for m := range 3 {
		for _, do := range []try{reading(0, m), reading(1, m), writing(0, m, 1), writing(1, m, 1), flushing(), finding(m)} {
			b := filled(t, small)
			h := madeOf(t, b, 20, small3("iii", 0))
			fail(t, b, m)
			e := api.OK
			if do.name[:4] == "Read" {
				e = api.ErrNone
			}
			x, got := do.do(h)
			want(t, do.name, got, e)
			if x != (api.Block{}) {
				t.Fatalf("%s = %x beside an error", do.name, x)
			}
			wantTold(t, do.name, h, 21, small3(after[m], 0), api.Degraded)
			wantNewest(t, do.name, b, h)
			was := b.Copy()
			_, got = do.do(h)
			want(t, do.name+" once more", got, e)
			wantTold(t, do.name+" once more", h, 21, small3(after[m], 0), api.Degraded)
			if do.name != "Flush" {
				wantSame(t, do.name+" once more", b, was)
			}
		}
	}
}

func TestFoundDeadAndFailed(t *testing.T) {
	for _, c := range []struct {
		name  string
		r     api.Roster
		dead  []int
		do    try
		event uint64
		after string
	}{
		{"one behind a lost one", small3("lii", 0), []int{1}, reading(0, 1), 1, "lli"},
		{"one behind a lost one", small3("lii", 0), []int{1}, writing(0, 1, 1), 1, "lli"},
		{"one beside one that heals", small3("hii", 1), []int{1}, reading(0, 1), 1, "hli"},
		{"one beside one that heals", small3("hii", 1), []int{2}, writing(1, 2, 1), 1, "hil"},
		{"two, found by one", small3("iii", 0), []int{0, 2}, reading(0, 2), 2, "lil"},
		{"two, found by one", small3("iii", 0), []int{0, 2}, writing(0, 2, 1), 2, "lil"},
		{"two, found by one", small3("iii", 0), []int{0, 2}, reading(0, 0), 2, "lil"},
		{"all", small3("iii", 0), []int{0, 1, 2}, reading(0, 1), 3, "lll"},
		{"all", small3("iii", 0), []int{0, 1, 2}, writing(1, 1, 1), 3, "lll"},
		{"two, by a flush", small3("iii", 0), []int{0, 1}, flushing(), 2, "lli"},
		{"two, by a flush", small3("iii", 0), []int{1, 2}, flushing(), 2, "ill"},
		{"all, by a flush", small3("iii", 0), []int{0, 1, 2}, flushing(), 3, "lll"},
		{"one behind a lost one, by a flush", small3("iil", 0), []int{1}, flushing(), 1, "ill"},
		{"another one, as it is filled", small3("hii", 1), []int{0, 1}, filling(1), 2, "lli"},
		{"the log is gone", members(small, "iii", 0, true), []int{1}, flushing(), 1, "ili"},
	} {
		b := filled(t, small)
		h := made(t, b, c.r)
		fail(t, b, c.dead...)
		x, e := c.do.do(h)
		want(t, c.name+": "+c.do.name, e, api.ErrFailed)
		if x != (api.Block{}) {
			t.Fatalf("%s = %x beside an error", c.do.name, x)
		}
		r := members(small, c.after, 0, c.r.Gone)
		if c.after[0] == 'h' {
			r.Cursor = c.r.Cursor
		}
		wantTold(t, c.name+": "+c.do.name, h, c.event, r, api.Failed)
		wantNewest(t, c.name, b, h)
	}
}

// In the order in which the promise names them: each call with all errors from one on.
func TestOrderOfErrors(t *testing.T) {
	// The power is cut, and the member is dead.
	b := filled(t, small)
	h := made(t, b, small3("iii", 0))
	fail(t, b, 1)
	darken(t, b)
	wantNoRead(t, "Read", h, 0, 1, api.ErrPower)
	wantWrite(t, "Write", h, 0, 1, some(1), api.ErrPower)
	want(t, "Flush", h.Flush(), api.ErrPower)
	wantTold(t, "dark", h, 0, small3("iii", 0), api.Optimal)
	// And it is lost.
	h = made(t, b, small3("ili", 0))
	wantNoRead(t, "Read", h, 0, 1, api.ErrNone)
	wantWrite(t, "Write", h, 0, 1, some(1), api.OK)
	want(t, "Flush", h.Flush(), api.ErrPower)
	want(t, "Fill", h.Fill(some(1)), api.ErrState)
	// Or it heals.
	h = made(t, b, small3("ihi", 0))
	wantNoRead(t, "Read", h, 0, 1, api.ErrNone)
	want(t, "Fill", h.Fill(some(1)), api.ErrPower)
	wantTold(t, "dark", h, 0, small3("ihi", 0), api.Rebuilding)
	// And the state is Failed.
	h = made(t, b, small3("ill", 0))
	wantNoRead(t, "Read", h, 0, 1, api.ErrFailed)
	wantWrite(t, "Write", h, 0, 1, some(1), api.ErrFailed)
	want(t, "Flush", h.Flush(), api.ErrFailed)
	want(t, "Fill", h.Fill(some(1)), api.ErrFailed)
	// And there is no such place.
	wantNoRead(t, "Read", h, 2, 1, api.ErrArg)
	wantWrite(t, "Write", h, 0, 3, some(1), api.ErrArg)
}

func TestReadCut(t *testing.T) {
	b := filled(t, small)
	h := made(t, b, small3("iii", 0))
	wantOK(t, "bench.Arm", b.Arm(1))
	wantRead(t, h, 0, 0, some(supers))
	wantWrite(t, "Write at the cut", h, 0, 0, some(9), api.ErrPower)
	wantNoRead(t, "Read in the dark", h, 0, 0, api.ErrPower)
	wantOK(t, "bench.Crash", b.Crash(nil))
	wantRead(t, h, 0, 0, some(supers))
	wantTold(t, "cut", h, 0, small3("iii", 0), api.Optimal)
}

// P18.2: Flush.

func TestFlush(t *testing.T) {
	for _, c := range []struct {
		r     api.Roster
		steps int
	}{
		{small3("iii", 0), 3}, {small3("lii", 0), 2}, {small3("iil", 0), 2}, {small3("ihi", 1), 3}, {members(small, "iii", 0, true), 3},
	} {
		b := filled(t, small)
		h := made(t, b, c.r)
		for m := range 3 {
			wantOK(t, "bench.Write", b.Write(m, supers, some(m+1)))
			wantOK(t, "bench.Write", b.Write(m, supers+1, some(m+11)))
		}
		wantOK(t, "bench.Write", b.Write(3, 7, some(77)))
		was := b.Copy()
		wantOK(t, "Flush", h.Flush())
		if b.Steps() != was.Steps()+c.steps {
			t.Fatalf("%d steps, want %d", b.Steps()-was.Steps(), c.steps)
		}
		for m := range 3 {
			if c.r.States[m] != api.Lost {
				wantOK(t, "bench.Flush", was.Flush(m))
			}
		}
		for d := range 4 {
			for n := range b.Sectors(d) {
				if sure(t, b, d, n) != sure(t, was, d, n) {
					t.Fatalf("sector %d of device %d is %x for sure, want %x", n, d, sure(t, b, d, n), sure(t, was, d, n))
				}
			}
		}
		wantTold(t, "Flush", h, 0, c.r, (&model{r: c.r}).state())
	}
}

// What Write wrote is sure behind Flush, and not ahead of it.
func TestFlushMakesSure(t *testing.T) {
	b := filled(t, small)
	h := made(t, b, small3("iii", 0))
	for m := range 3 {
		wantWrite(t, "Write", h, 1, m, some(m+1), api.OK)
		if sure(t, b, m, 3) == some(m+1) {
			t.Fatal("sure ahead of Flush")
		}
	}
	wantOK(t, "Flush", h.Flush())
	wantOK(t, "bench.Crash", b.Crash(nil))
	for m := range 3 {
		wantRead(t, h, 1, m, some(m+1))
	}
}

// One that is dead does not keep those behind it from being flushed.
func TestFlushOfDead(t *testing.T) {
	for _, dead := range [][]int{{0}, {1}, {2}, {0, 1}, {0, 2}, {1, 2}, {0, 1, 2}} {
		b := filled(t, small)
		h := made(t, b, small3("iii", 0))
		for m := range 3 {
			wantWrite(t, "Write", h, 1, m, some(m+1), api.OK)
		}
		fail(t, b, dead...)
		e := api.OK
		if len(dead) > 1 {
			e = api.ErrFailed
		}
		want(t, "Flush", h.Flush(), e)
		if h.Event() != uint64(len(dead)) {
			t.Fatalf("Event = %d", h.Event())
		}
		wantNewest(t, "Flush", b, h)
		for m := range 3 {
			if h.Roster().States[m] != api.Lost && sure(t, b, m, 3) != some(m+1) {
				t.Fatalf("dead %v: of the member %d it is not sure", dead, m)
			}
		}
	}
}

// Where the power is cut, those ahead of it are flushed, and the hull is as it was.
func TestFlushCut(t *testing.T) {
	for cut := 1; cut <= 3; cut++ {
		b := filled(t, small)
		h := made(t, b, small3("iii", 0))
		for m := range 3 {
			wantWrite(t, "Write", h, 0, m, some(m+1), api.OK)
		}
		wantOK(t, "bench.Arm", b.Arm(cut))
		want(t, "Flush", h.Flush(), api.ErrPower)
		want(t, "Flush in the dark", h.Flush(), api.ErrPower)
		wantTold(t, "cut", h, 0, small3("iii", 0), api.Optimal)
		for m := range 3 {
			if is := sure(t, b, m, 2) == some(m+1); is != (m+1 < cut) {
				t.Fatalf("cut at %d: sure of the member %d is %t", cut, m, is)
			}
		}
	}
}

// What a Flush saved ahead of the cut stays.
func TestFlushCutBehindASave(t *testing.T) {
	b := filled(t, small)
	h := made(t, b, small3("iii", 0))
	fail(t, b, 0)
	wantOK(t, "bench.Arm", b.Arm(5))
	want(t, "Flush", h.Flush(), api.ErrPower)
	wantTold(t, "cut", h, 1, small3("lii", 0), api.Degraded)
	wantOK(t, "bench.Crash", b.Crash(nil))
	wantNewest(t, "cut", b, h)
}

// P18.3: Fill.

func TestFill(t *testing.T) {
	for _, g := range []api.Geo{small, geo(3, 1, 40), geo(4, 5, 40), geo(16, 3, 40)} {
		for m := range g.Members {
			b := filled(t, g)
			r := api.Roster{Geo: g}
			r.States[m] = api.Healing
			h := madeOf(t, b, 3, r)
			was := b.Copy()
			for s := range g.Stripes {
				wantTold(t, "Fill", h, 3, r, api.Rebuilding)
				wantNoRead(t, "ahead of Fill", h, s, m, api.ErrNone)
				wantOK(t, "Fill", h.Fill(some(-s-1)))
				wantOK(t, "bench.Write", was.Write(m, supers+s, some(-s-1)))
				wantRead(t, h, s, m, some(-s-1))
				wantSame(t, "Fill", b, was)
				r.Cursor++
			}
			wantTold(t, "Fill", h, 3, api.Roster{Geo: g}, api.Optimal)
			want(t, "Fill of a whole one", h.Fill(some(1)), api.ErrState)
			wantSame(t, "Fill of a whole one", b, was)
		}
	}
}

func TestFillOfNone(t *testing.T) {
	for _, r := range []api.Roster{small3("iii", 0), small3("ili", 0), members(small, "iii", 0, true)} {
		for _, dark := range []bool{false, true} {
			b := filled(t, small)
			h := made(t, b, r)
			if dark {
				fail(t, b, 1)
				darken(t, b)
			}
			was := b.Copy()
			want(t, "Fill", h.Fill(some(1)), api.ErrState)
			wantSame(t, "Fill", b, was)
			wantTold(t, "Fill", h, 0, r, (&model{r: r}).state())
		}
	}
}

func TestFillOfDead(t *testing.T) {
	for cursor := range 2 {
		b := filled(t, small)
		h := made(t, b, small3("ihi", cursor))
		fail(t, b, 1)
		want(t, "Fill", h.Fill(some(1)), api.ErrNone)
		wantTold(t, "Fill", h, 1, small3("ili", 0), api.Degraded)
		wantNewest(t, "Fill", b, h)
		want(t, "Fill", h.Fill(some(1)), api.ErrState)
	}
	// Another one that is dead is not asked, and not found.
	b := filled(t, small)
	h := made(t, b, small3("ihi", 0))
	fail(t, b, 0)
	wantOK(t, "Fill", h.Fill(some(1)))
	wantTold(t, "Fill", h, 0, small3("ihi", 1), api.Rebuilding)
}

func TestFillCut(t *testing.T) {
	for cursor := range 2 {
		b := filled(t, small)
		h := made(t, b, small3("ihi", cursor))
		was := b.Copy()
		wantOK(t, "bench.Arm", b.Arm(1))
		want(t, "Fill at the cut", h.Fill(some(1)), api.ErrPower)
		want(t, "Fill in the dark", h.Fill(some(1)), api.ErrPower)
		wantTold(t, "Fill", h, 0, small3("ihi", cursor), api.Rebuilding)
		wantOK(t, "bench.Crash", b.Crash(nil))
		wantSame(t, "Fill", b, was)
		wantOK(t, "Fill", h.Fill(some(1)))
		if read(t, b, 1, supers+cursor) != some(1) {
			t.Fatal("Fill wrote elsewhere")
		}
	}
}

// P18.3: Find.

func TestFind(t *testing.T) {
	for _, r := range rosters(small) {
		b := filled(t, small)
		h := made(t, b, r)
		was := b.Copy()
		for _, m := range []int{math.MinInt, math.MinInt32, -256, -3, -1, 3, 4, 15, 16, 256, 257, 1 << 32, 1<<32 + 1, math.MaxInt - 1, math.MaxInt} {
			want(t, "Find("+strconv.Itoa(m)+")", h.Find(m), api.ErrArg)
		}
		for m := range 3 {
			wantOK(t, "Find of one that is not dead", h.Find(m))
		}
		wantSame(t, "Find", b, was)
		wantTold(t, "Find", h, 0, r, (&model{r: r}).state())
	}
}

func TestFindOfDead(t *testing.T) {
	for _, c := range []struct {
		letters string
		dead    []int
		member  int
		event   uint64
		after   string
		state   int
	}{
		{"iii", []int{0}, 0, 1, "lii", api.Degraded},
		{"iii", []int{1}, 1, 1, "ili", api.Degraded},
		{"iii", []int{2}, 2, 1, "iil", api.Degraded},
		{"iii", []int{2}, 1, 0, "iii", api.Optimal},
		{"iii", []int{3}, 2, 0, "iii", api.Optimal},
		{"iii", []int{0, 2}, 2, 2, "lil", api.Failed},
		{"iii", []int{0, 1, 2}, 1, 3, "lll", api.Failed},
		{"lii", []int{0}, 0, 0, "lii", api.Degraded},
		{"lii", []int{0, 1}, 0, 0, "lii", api.Degraded},
		{"lii", []int{1}, 1, 1, "lli", api.Failed},
		{"lli", []int{2}, 2, 1, "lll", api.Failed},
		{"hii", []int{0}, 0, 1, "lii", api.Degraded},
	} {
		b := filled(t, small)
		cursor := 0
		if c.letters[0] == 'h' {
			cursor = 1
		}
		h := made(t, b, small3(c.letters, cursor))
		fail(t, b, c.dead...)
		wantOK(t, "Find", h.Find(c.member))
		wantTold(t, "Find, "+c.letters, h, c.event, small3(c.after, 0), c.state)
		if c.event > 0 {
			wantNewest(t, "Find", b, h)
		}
		was := b.Copy()
		wantOK(t, "Find once more", h.Find(c.member))
		wantSame(t, "Find once more", b, was)
		wantTold(t, "Find once more", h, c.event, small3(c.after, 0), c.state)
	}
}

func TestFindCut(t *testing.T) {
	for cut := 0; cut <= 4; cut++ {
		b := filled(t, small)
		h := made(t, b, small3("iii", 0))
		fail(t, b, 1)
		if cut == 0 {
			darken(t, b)
		} else {
			wantOK(t, "bench.Arm", b.Arm(cut))
		}
		for range 2 {
			want(t, "Find", h.Find(1), api.ErrPower)
			wantTold(t, "Find", h, 0, small3("iii", 0), api.Optimal)
		}
		wantOK(t, "Find of another one", h.Find(0))
		want(t, "Find of none", h.Find(3), api.ErrArg)
		wantOK(t, "bench.Crash", b.Crash(nil))
		wantOK(t, "Find", h.Find(1))
		if h.State() != api.Degraded {
			t.Fatalf("State = %d", h.State())
		}
		wantNewest(t, "Find", b, h)
	}
}

// P18.3: Begin and Gone.

func TestBegin(t *testing.T) {
	for _, r := range rosters(small) {
		for _, m := range []int{math.MinInt, -256, -1, 0, 1, 2, 3, 15, 16, 256, 257, 1 << 32, math.MaxInt} {
			for _, dark := range []bool{false, true} {
				b := filled(t, small)
				h := madeOf(t, b, 2, r)
				fail(t, b, 1)
				if dark {
					darken(t, b)
				}
				was := b.Copy()
				is := &model{r: r}
				want(t, tell(r, nil)+": Begin("+strconv.Itoa(m)+")", h.Begin(m), is.Begin(m))
				wantTold(t, "Begin", h, 2, is.r, is.state())
				wantSame(t, "Begin", b, was)
			}
		}
	}
	h := made(t, filled(t, small), small3("ili", 0))
	wantOK(t, "Begin", h.Begin(1))
	wantTold(t, "Begin", h, 0, small3("ihi", 0), api.Rebuilding)
	want(t, "Begin once more", h.Begin(1), api.ErrState)
}

func TestGone(t *testing.T) {
	for _, r := range rosters(small) {
		for _, gone := range []bool{true, false, false, true, true} {
			b := filled(t, small)
			h := madeOf(t, b, 2, r)
			fail(t, b, 1)
			darken(t, b)
			was := b.Copy()
			wantOK(t, "Gone", h.Gone(gone))
			r.Gone = gone
			wantTold(t, "Gone", h, 2, r, (&model{r: r}).state())
			wantSame(t, "Gone", b, was)
		}
	}
}

// P18.4.

// Whatever is dead at a Save, it uses one event, and one for each that it finds dead.
func TestEventsOfASave(t *testing.T) {
	for _, g := range []api.Geo{small, geo(4, 1, 40), geo(6, 2, 40)} {
		for n := range 1 << g.Members {
			for lost := -1; lost < g.Members; lost++ {
				r := api.Roster{Geo: g}
				if lost >= 0 {
					r.States[lost] = api.Lost
				}
				b := filled(t, g)
				h := madeOf(t, b, 7, r)
				event := uint64(8)
				for _, m := range subset(g, n) {
					fail(t, b, m)
					if m != lost {
						event++
					}
					r.States[m] = api.Lost
				}
				wantOK(t, "Save", h.Save())
				wantTold(t, "Save", h, event, r, (&model{r: r}).state())
				wantNewest(t, "Save", b, h)
			}
		}
	}
	wide := geo(16, 1, 40)
	b := filled(t, wide)
	h := made(t, b, api.Roster{Geo: wide})
	var r api.Roster
	r.Geo = wide
	for m := range 16 {
		fail(t, b, m)
		r.States[m] = api.Lost
	}
	wantOK(t, "Save", h.Save())
	wantTold(t, "Save", h, 17, r, api.Failed)
}

// What is handed in and what is answered are copies.
func TestCopies(t *testing.T) {
	b := filled(t, small)
	r := small3("ihi", 1)
	h := made(t, b, r)
	r.States[0], r.Cursor, r.Gone = api.Lost, 0, true
	got := h.Roster()
	got.States[2], got.Geo.Stripes = api.Lost, 1
	wantTold(t, "copies", h, 0, small3("ihi", 1), api.Rebuilding)
	x := some(1)
	wantWrite(t, "Write", h, 0, 0, x, api.OK)
	x[0]++
	wantRead(t, h, 0, 0, some(1))
	y, _ := h.Read(api.Place{})
	y[0]++
	wantRead(t, h, 0, 0, some(1))
}

// Two hulls, also of one kind, have nothing in common but a bench that is handed to both.
func TestTwoHulls(t *testing.T) {
	b, c := filled(t, small), filled(t, small)
	h, k := made(t, b, small3("iii", 0)), made(t, c, small3("iii", 0))
	fail(t, b, 1)
	was := c.Copy()
	wantOK(t, "Save", h.Save())
	wantOK(t, "Gone", h.Gone(true))
	wantTold(t, "the other one", k, 0, small3("iii", 0), api.Optimal)
	wantSame(t, "the other one", c, was)
}

// Each call, in each situation that there can be with three members, with the power
// cut at each of its steps and not, held against the document's words.
func TestEachSituation(t *testing.T) {
	for i, r := range rosters(small) {
		for n := range 8 {
			dead := subset(small, n)
			b := filled(t, small)
			for m := range 3 {
				// Superblocks of an event ahead of this one stand in either sector.
				write(t, b, m, (i+m)%2, sector(t, 30, api.Super{Id: id, Self: m, Roster: r}))
			}
			fail(t, b, dead...)
			for _, do := range all(small) {
				for cut := 0; ; cut++ {
					p := paired(t, b, 30, r)
					p.both(t, func(b *bench.Bench) api.Errno { return b.Arm(cut) })
					p.wantLike(t, tell(r, dead)+", cut at "+strconv.Itoa(cut), do)
					if cut > 0 && !p.b.Dark() {
						break
					}
				}
			}
		}
	}
}

// Long rows of calls, with members that fail and are put in anew, sectors that are
// spoilt, and the power that is cut, held against the document's words.
func TestRows(t *testing.T) {
	for seed := range 300 {
		roll := dice(seed)
		g := api.Geo{Members: 3 + roll(3), Stripes: 1 + roll(4), Ring: 40}
		p := paired(t, filled(t, g), uint64(roll(3)), api.Roster{Geo: g})
		for n := range 80 {
			what := "seed " + strconv.Itoa(seed) + ", " + strconv.Itoa(n)
			upset(t, p, g, roll)
			do := drawn(g, roll)
			e := p.wantLike(t, what, do)
			if do.name == "Save" && e == api.OK {
				wantNewest(t, what, p.b, p.h)
			}
		}
	}
}

// upset is something that comes from without, now and then.
func upset(t *testing.T, p pair, g api.Geo, roll func(int) int) {
	t.Helper()
	d, n, at := roll(g.Members), roll(supers), roll(size)
	cut, keep := 1+roll(12), []int{roll(size + 9), roll(size + 9), roll(size + 9), roll(size + 9)}
	switch roll(24) {
	case 0:
		p.both(t, func(b *bench.Bench) api.Errno { return b.Fail(d) })
	case 1, 2, 3:
		p.both(t, func(b *bench.Bench) api.Errno { return b.Arm(cut) })
	case 4, 5, 6:
		p.both(t, func(b *bench.Bench) api.Errno { return b.Crash(keep) })
	case 7:
		p.both(t, func(b *bench.Bench) api.Errno { return b.Rot(d, n, at, 1) })
	case 8, 9:
		if p.h.Roster().States[d] == api.Lost {
			p.both(t, func(b *bench.Bench) api.Errno { return b.Insert(d) })
		}
	}
}

// drawn is some call.
func drawn(g api.Geo, roll func(int) int) try {
	s, m, seed := roll(g.Stripes+2)-1, roll(g.Members+2)-1, roll(1000)
	switch roll(16) {
	case 0, 1, 2:
		return reading(s, m)
	case 3, 4, 5:
		return writing(s, m, seed)
	case 6, 7, 8:
		return saving()
	case 9, 10:
		return flushing()
	case 11, 12:
		return filling(seed)
	case 13:
		return finding(m)
	case 14:
		return going(roll(4) == 0)
	}
	return beginning(m)
}
