package remote_test

import (
	"math"
	"math/rand/v2"
	"slices"
	"strings"
	"testing"

	"viaduct/api"
	"viaduct/ccm"
	"viaduct/remote"
)

// names are the bytes of an association's names, noughts behind them.
func names(s string) string { return s + strings.Repeat("\x00", 48-len(s)) }

// Two associations' bytes.
var (
	line  = names("\x04\x04city\x02\x04line")
	other = names("\x04\x04city\x02\x04lane")
)

// own is a point of level 3, number 1, that checks each tick; slow is one that checks each ten.
var (
	own  = remote.Own{Level: 3, Mepid: 1, Interval: 4, Maid: line}
	slow = remote.Own{Level: 3, Mepid: 1, Interval: 5, Maid: line}
)

// machine is one of an own point and of others.
func machine(t *testing.T, o remote.Own, others ...uint16) *remote.Machine {
	t.Helper()
	m, e := remote.New(o, others)
	if m == nil || e != api.OK {
		t.Fatalf("New(%+v, %d) = %v, %d", o, others, m, e)
	}
	return m
}

// checkNewNot holds that there is no such machine.
func checkNewNot(t *testing.T, o remote.Own, others ...uint16) {
	t.Helper()
	if m, e := remote.New(o, others); m != nil || e != api.ErrArg {
		t.Errorf("New(%+v, %d) = %v, %d; want none, ErrArg", o, others, m, e)
	}
}

// from is a check of another point of an own one's association.
func from(o remote.Own, mepid uint16) ccm.Check {
	return ccm.Check{Level: o.Level, Interval: o.Interval, Mepid: mepid, Maid: o.Maid}
}

// with is a check that tells of a defect.
func with(c ccm.Check) ccm.Check {
	c.Rdi = true
	return c
}

// changed is a check that was changed so.
func changed(c ccm.Check, change func(*ccm.Check)) ccm.Check {
	change(&c)
	return c
}

// tick lets so many ticks go by.
func tick(m *remote.Machine, n int) {
	for range n {
		m.Tick()
	}
}

func checkLost(t *testing.T, m *remote.Machine, want ...uint16) {
	t.Helper()
	if l := m.Lost(); !slices.Equal(l, want) {
		t.Errorf("Lost() = %d, want %d", l, want)
	}
}

func checkRdis(t *testing.T, m *remote.Machine, want ...uint16) {
	t.Helper()
	if l := m.Rdis(); !slices.Equal(l, want) {
		t.Errorf("Rdis() = %d, want %d", l, want)
	}
}

// checkWorst holds what the worst is, and that it is a defect just from Lost on.
func checkWorst(t *testing.T, m *remote.Machine, want uint8) {
	t.Helper()
	if w := m.Worst(); w != want {
		t.Errorf("Worst() = %d, want %d", w, want)
	}
	if d := m.Defects(); d != (want == remote.Lost || want == remote.Error || want == remote.Cross) {
		t.Errorf("Defects() = %t where the worst is %d", d, want)
	}
}

// The chapter's example.
func TestExample(t *testing.T) {
	m := machine(t, own, 2)
	tick(m, 3)
	checkLost(t, m)
	checkWorst(t, m, remote.None)
	m.Tick()
	checkLost(t, m, 2)
	checkWorst(t, m, remote.Lost)
	m.Hear(from(own, 2))
	checkLost(t, m)
	checkWorst(t, m, remote.None)
	m.Hear(from(own, 3))
	checkLost(t, m)
	checkWorst(t, m, remote.Error)
}

// What is wrong has these numbers.
func TestConstants(t *testing.T) {
	all := []uint8{remote.None, remote.Rdi, remote.Lost, remote.Error, remote.Cross}
	if !slices.Equal(all, []uint8{0, 1, 2, 3, 4}) {
		t.Errorf("the constants are %d", all)
	}
}

// P18.1: New answers a machine whose others all last as long as a check of the own interval, and
// tell of no defect; there is neither an error nor a cross connect.
func TestNew(t *testing.T) {
	for _, o := range []remote.Own{
		own, slow,
		{Level: 0, Mepid: 1, Interval: 4, Maid: line},
		{Level: 7, Mepid: 1, Interval: 5, Maid: other},
	} {
		m := machine(t, o, 30, 2, 8191)
		checkRdis(t, m)
		checkWorst(t, m, remote.None)
		tick(m, remote.Lasts(o.Interval)-1)
		checkLost(t, m)
		checkWorst(t, m, remote.None)
		m.Tick()
		checkLost(t, m, 2, 30, 8191)
		checkWorst(t, m, remote.Lost)
	}
}

// P18.1: others' numbers may be from 1 to MaxMepid, and so may the own one; there may be none, or
// as many as MaxMeps.
func TestNewEdges(t *testing.T) {
	last := own
	last.Mepid = 8191
	for _, c := range []struct {
		o      remote.Own
		others []uint16
	}{
		{own, nil},
		{own, []uint16{}},
		{own, []uint16{8191}},
		{last, []uint16{1}},
		{last, []uint16{8190, 1}},
		{own, []uint16{9, 8, 7, 6, 5, 4, 3, 2}},
	} {
		m := machine(t, c.o, c.others...)
		tick(m, 4)
		want := slices.Clone(c.others)
		slices.Sort(want)
		checkLost(t, m, want...)
	}
}

// P18.1: an own point that no check may be of is answered by ErrArg.
func TestNewWrongOwn(t *testing.T) {
	for _, change := range []func(*remote.Own){
		func(o *remote.Own) { *o = remote.Own{} },
		func(o *remote.Own) { o.Level = 8 },
		func(o *remote.Own) { o.Level = 255 },
		func(o *remote.Own) { o.Mepid = 0 },
		func(o *remote.Own) { o.Mepid = 8192 },
		func(o *remote.Own) { o.Mepid = math.MaxUint16 },
		func(o *remote.Own) { o.Interval = 0 },
		func(o *remote.Own) { o.Interval = 3 },
		func(o *remote.Own) { o.Interval = 6 },
		func(o *remote.Own) { o.Maid = "" },
		func(o *remote.Own) { o.Maid = line[:47] },
		func(o *remote.Own) { o.Maid = line + "\x00" },
		func(o *remote.Own) { o.Maid = names("city") },
	} {
		o := own
		change(&o)
		checkNewNot(t, o, 2)
		checkNewNot(t, o)
	}
}

// P18.1: others' numbers that may not be are answered by ErrArg, wherever they stand.
func TestNewWrongOthers(t *testing.T) {
	for _, others := range [][]uint16{
		{0},
		{8192},
		{math.MaxUint16},
		{2, 3, 0},
		{2, 8192, 3},
		{1},
		{2, 1},
		{1, 2},
		{2, 2},
		{2, 3, 2},
		{2, 3, 4, 5, 6, 7, 8, 9, 10},
		{2, 2, 2, 2, 2, 2, 2, 2, 2},
	} {
		checkNewNot(t, own, others...)
	}
}

// R3: New neither changes the numbers that it is handed, nor what stands behind them, nor keeps them.
func TestNewKeepsNothing(t *testing.T) {
	room := []uint16{5, 3, 77, 99}
	m := machine(t, own, room[:2]...)
	if !slices.Equal(room, []uint16{5, 3, 77, 99}) {
		t.Errorf("New changed what it was handed: %d", room)
	}
	room[0], room[1] = 11, 12
	m.Hear(from(own, 11))
	checkWorst(t, m, remote.Error)
	tick(m, 4)
	checkLost(t, m, 3, 5)
}

// P18.1: a check lasts three and a half times its interval, made whole upwards; one of an interval
// that there is not 0.
func TestLasts(t *testing.T) {
	for i := range 256 {
		want := 0
		switch i {
		case 4:
			want = 4
		case 5:
			want = 35
		}
		if n := remote.Lasts(uint8(i)); n != want {
			t.Errorf("Lasts(%d) = %d, want %d", i, n, want)
		}
	}
}

// P18.2: another one that is heard lasts as long as the check from then on, and tells of a defect
// as the check does; no other one changes.
func TestHear(t *testing.T) {
	for _, o := range []remote.Own{own, slow} {
		n := remote.Lasts(o.Interval)
		m := machine(t, o, 2, 3)
		tick(m, n-1)
		m.Hear(with(from(o, 3)))
		checkLost(t, m)
		checkRdis(t, m, 3)
		checkWorst(t, m, remote.Rdi)
		m.Tick()
		checkLost(t, m, 2)
		checkRdis(t, m, 3)
		checkWorst(t, m, remote.Lost)
		m.Hear(from(o, 2)) // one that was lost is there again
		m.Hear(from(o, 3))
		checkLost(t, m)
		checkRdis(t, m)
		checkWorst(t, m, remote.None)
		tick(m, n-1)
		checkLost(t, m)
		m.Tick()
		checkLost(t, m, 2, 3)
	}
}

// P18.2: a check is no longer than it lasts, however often it is heard in one tick, whatever its
// number that counts on is.
func TestHearTwice(t *testing.T) {
	m := machine(t, own, 2)
	for i := range 5 {
		m.Hear(changed(from(own, 2), func(c *ccm.Check) { c.Seq = uint32(math.MaxUint32 - i) }))
	}
	tick(m, 3)
	checkLost(t, m)
	m.Tick()
	checkLost(t, m, 2)
}

// P18.2: a check of a level above the own one is not heard, whatever else it says.
func TestHearAbove(t *testing.T) {
	for l := own.Level + 1; l <= 7; l++ {
		for _, c := range []ccm.Check{
			with(from(own, 2)),
			from(own, 1),
			from(own, 9),
			changed(from(own, 2), func(c *ccm.Check) { c.Maid = other }),
			changed(from(own, 2), func(c *ccm.Check) { c.Interval = 5 }),
		} {
			m := machine(t, own, 2)
			tick(m, 3)
			c.Level = l
			m.Hear(c)
			checkWorst(t, m, remote.None)
			m.Tick()
			checkLost(t, m, 2)
			checkWorst(t, m, remote.Lost)
		}
	}
}

// P18.2: a check that may not be changes nothing, be it below the own level, or of another
// association, or else an error.
func TestHearMayNotBe(t *testing.T) {
	for _, change := range []func(*ccm.Check){
		func(c *ccm.Check) { *c = ccm.Check{} },
		func(c *ccm.Check) { c.Interval = 0 },
		func(c *ccm.Check) { c.Interval = 3 },
		func(c *ccm.Check) { c.Interval, c.Level = 6, 0 },
		func(c *ccm.Check) { c.Mepid = 0 },
		func(c *ccm.Check) { c.Mepid, c.Level = 0, 0 },
		func(c *ccm.Check) { c.Mepid = 8192 },
		func(c *ccm.Check) { c.Mepid, c.Maid = 8192, other },
		func(c *ccm.Check) { c.Maid = "" },
		func(c *ccm.Check) { c.Maid = line[:47] },
		func(c *ccm.Check) { c.Maid = names("\x05") },
		func(c *ccm.Check) { c.Level = 8 },
		func(c *ccm.Check) { c.Level = 255 },
	} {
		m := machine(t, own, 2)
		tick(m, 3)
		m.Hear(changed(with(from(own, 2)), change))
		checkWorst(t, m, remote.None)
		m.Tick()
		checkLost(t, m, 2)
	}
}

// P18.2: a check below the own level, or of another association, is a cross connect for as long as
// it lasts, whatever else it says; nobody is heard by it.
func TestHearCross(t *testing.T) {
	for _, c := range []ccm.Check{
		changed(with(from(own, 2)), func(c *ccm.Check) { c.Level = 2 }),
		changed(with(from(own, 2)), func(c *ccm.Check) { c.Level = 0 }),
		changed(with(from(own, 2)), func(c *ccm.Check) { c.Maid = other }),
		changed(from(own, 1), func(c *ccm.Check) { c.Maid = other }),
		changed(from(own, 9), func(c *ccm.Check) { c.Maid = other }),
		changed(from(own, 9), func(c *ccm.Check) { c.Level = 1 }),
		changed(from(slow, 2), func(c *ccm.Check) { c.Level = 1 }),
		changed(from(slow, 2), func(c *ccm.Check) { c.Maid = other }),
	} {
		m := machine(t, own, 2)
		tick(m, 3)
		m.Hear(c)
		checkLost(t, m)
		checkRdis(t, m)
		checkWorst(t, m, remote.Cross)
		m.Tick()
		checkLost(t, m, 2)
		tick(m, remote.Lasts(c.Interval)-2)
		checkWorst(t, m, remote.Cross)
		m.Tick()
		checkWorst(t, m, remote.Lost) // and no error
	}
}

// P18.2: a check of the own number, of no other one's, or of another interval, is an error for as
// long as it lasts; nobody is heard by it.
func TestHearError(t *testing.T) {
	for _, c := range []ccm.Check{
		with(from(own, 1)),
		with(from(own, 3)),
		from(own, 8191),
		with(from(slow, 2)),
		from(slow, 1),
		from(slow, 9),
	} {
		m := machine(t, own, 2)
		tick(m, 3)
		m.Hear(c)
		checkLost(t, m)
		checkRdis(t, m)
		checkWorst(t, m, remote.Error)
		m.Tick()
		checkLost(t, m, 2)
		tick(m, remote.Lasts(c.Interval)-2)
		checkWorst(t, m, remote.Error)
		m.Tick()
		checkWorst(t, m, remote.Lost)
	}
}

// P18.2: what lasts longer already goes on as long as it did; what lasts shorter is made longer.
func TestHearLonger(t *testing.T) {
	wrong := []struct {
		name   string
		worst  uint8
		change func(*ccm.Check)
	}{
		{"error", remote.Error, func(c *ccm.Check) { c.Mepid = 9 }},
		{"cross connect", remote.Cross, func(c *ccm.Check) { c.Maid = other }},
	}
	for _, w := range wrong {
		short, long := changed(from(own, 2), w.change), changed(from(slow, 2), w.change)
		for _, c := range []struct {
			first, second ccm.Check
			between, left int
		}{
			{long, short, 0, 35},
			{long, short, 30, 5},
			{long, short, 31, 4},
			{long, short, 33, 4},
			{short, long, 3, 35},
			{short, short, 2, 4},
			{long, long, 20, 35},
		} {
			m := machine(t, own)
			m.Hear(c.first)
			tick(m, c.between)
			m.Hear(c.second)
			tick(m, c.left-1)
			if m.Worst() != w.worst {
				t.Errorf("%s: %+v: does not last", w.name, c)
			}
			m.Tick()
			if m.Worst() != remote.None {
				t.Errorf("%s: %+v: lasts too long", w.name, c)
			}
		}
	}
}

// P18.2: a tick makes all that lasts less by one, at once; what does not last stays so, however
// many ticks go by.
func TestTick(t *testing.T) {
	m := machine(t, own, 2, 3)
	m.Hear(from(own, 9))
	m.Hear(changed(from(own, 9), func(c *ccm.Check) { c.Level = 0 }))
	m.Tick()
	m.Hear(with(from(own, 3)))
	tick(m, 2)
	checkWorst(t, m, remote.Cross)
	m.Tick()
	checkLost(t, m, 2)
	checkRdis(t, m, 3)
	checkWorst(t, m, remote.Lost)
	tick(m, 1000)
	checkLost(t, m, 2, 3)
	checkWorst(t, m, remote.Lost)
	m.Hear(from(own, 2))
	m.Hear(from(own, 3))
	checkWorst(t, m, remote.None)
	tick(m, 3)
	checkLost(t, m)
}

// P18.3: those that are lost, and those that are not and tell of a defect, are told rising; one
// that is lost tells of nothing.
func TestRising(t *testing.T) {
	m := machine(t, own, 700, 3, 8191, 20, 5, 2, 400, 11)
	for _, n := range []uint16{400, 3, 8191, 11} {
		m.Hear(with(from(own, n)))
	}
	checkLost(t, m)
	checkRdis(t, m, 3, 11, 400, 8191)
	m.Tick()
	m.Hear(with(from(own, 8191)))
	m.Hear(from(own, 400))
	m.Hear(with(from(own, 20)))
	checkRdis(t, m, 3, 11, 20, 8191)
	tick(m, 3)
	checkLost(t, m, 2, 3, 5, 11, 700)
	checkRdis(t, m, 20, 8191)
	m.Tick()
	checkLost(t, m, 2, 3, 5, 11, 20, 400, 700, 8191)
	checkRdis(t, m)
}

// R3: the lists that are told are new memory, spare room too.
func TestNewMemory(t *testing.T) {
	m := machine(t, own, 2, 3, 4)
	tick(m, 3)
	m.Hear(with(from(own, 3)))
	m.Tick()
	for _, tell := range []func() []uint16{m.Lost, m.Rdis} {
		want := slices.Clone(tell())
		l := tell()
		l = l[:cap(l)]
		for i := range l {
			l[i] = 77
		}
		if again := tell(); !slices.Equal(again, want) {
			t.Errorf("%d, then %d", want, again)
		}
	}
	checkLost(t, m, 2, 4)
	checkRdis(t, m, 3)
}

// P18.4: a cross connect is worse than an error, that than one that is lost, that than a defect
// that one who is not lost tells of.
func TestWorst(t *testing.T) {
	m := machine(t, own, 2, 3)
	checkWorst(t, m, remote.None)
	tick(m, 3)
	m.Hear(with(from(own, 3)))
	checkWorst(t, m, remote.Rdi)
	m.Tick()
	checkWorst(t, m, remote.Lost)
	m.Hear(from(own, 9))
	checkWorst(t, m, remote.Error)
	m.Tick()
	m.Hear(changed(from(own, 3), func(c *ccm.Check) { c.Level = 2 }))
	m.Tick()
	m.Hear(from(own, 9))
	checkWorst(t, m, remote.Cross)
	m.Hear(with(from(own, 2)))
	m.Hear(with(from(own, 3)))
	tick(m, 3)
	checkWorst(t, m, remote.Error)
	m.Hear(with(from(own, 3)))
	m.Tick()
	checkWorst(t, m, remote.Lost)
	m.Hear(from(own, 2))
	checkWorst(t, m, remote.Rdi)
	m.Hear(from(own, 3))
	checkWorst(t, m, remote.None)
}

// P18.4: a defect that only one who is lost tells of is none but that.
func TestWorstOfLost(t *testing.T) {
	m := machine(t, own, 2)
	m.Hear(with(from(own, 2)))
	checkWorst(t, m, remote.Rdi)
	tick(m, 4)
	checkRdis(t, m)
	checkWorst(t, m, remote.Lost)
}

// P18.5: one that comes each interval, late by half of one at most, is never lost.
func TestNeverLost(t *testing.T) {
	for _, o := range []remote.Own{own, slow} {
		every := ccm.Ticks(o.Interval)
		m := machine(t, o, 2, 3)
		for now := range 100 * every {
			if now%every == every/2*(now/every%2) { // each second one is late
				m.Hear(from(o, 2))
			}
			m.Tick()
			if slices.Contains(m.Lost(), 2) {
				t.Fatalf("lost behind %d ticks", now)
			}
		}
		checkLost(t, m, 3)
	}
}

// P18.5: neither who is not of the association, nor who has another interval, keeps anybody there.
func TestNobodyKept(t *testing.T) {
	for _, change := range []func(*ccm.Check){
		func(c *ccm.Check) { c.Maid = other },
		func(c *ccm.Check) { c.Level = 2 },
		func(c *ccm.Check) { c.Level = 4 },
		func(c *ccm.Check) { c.Interval = 5 },
		func(c *ccm.Check) { c.Mepid = 3 },
		func(c *ccm.Check) { c.Mepid = 1 },
	} {
		m := machine(t, own, 2)
		for range 4 {
			m.Hear(changed(from(own, 2), change))
			m.Tick()
		}
		checkLost(t, m, 2)
	}
}

// P18.2, P18.3, P18.4: a machine that is none hears nothing, and tells of nothing.
func TestNil(t *testing.T) {
	var m *remote.Machine
	m.Hear(from(own, 2))
	m.Hear(ccm.Check{})
	m.Tick()
	checkLost(t, m)
	checkRdis(t, m)
	checkWorst(t, m, remote.None)
}

// R1: no call panics on a machine that New did not make.
func TestHandMade(t *testing.T) {
	var m remote.Machine
	m.Tick()
	m.Hear(from(own, 2))
	m.Hear(changed(from(own, 2), func(c *ccm.Check) { c.Level = 0 }))
	m.Tick()
	checkLost(t, &m)
	checkRdis(t, &m)
	m.Worst()
	m.Defects()
}

// R2: what one machine hears no other one does.
func TestApart(t *testing.T) {
	a, b := machine(t, own, 2), machine(t, own, 2)
	a.Hear(from(own, 9))
	a.Hear(with(from(own, 2)))
	checkRdis(t, b)
	checkWorst(t, b, remote.None)
	tick(a, 4)
	checkLost(t, b)
}

// heard is a check, and in which tick it was heard.
type heard struct {
	tick int
	c    ccm.Check
}

// history is all that was done to a machine: the model works each answer out of it anew.
type history struct {
	own    remote.Own
	others []uint16
	checks []heard
	now    int
}

// lasting tells whether a check of those lasts yet.
func (h *history) lasting(such func(c ccm.Check) bool) bool {
	return slices.ContainsFunc(h.checks, func(x heard) bool {
		n := 4
		if x.c.Interval == 5 {
			n = 35
		}
		return such(x.c) && h.now-x.tick < n
	})
}

func (h *history) isCross(c ccm.Check) bool {
	return c.Level < h.own.Level || c.Level == h.own.Level && c.Maid != h.own.Maid
}

func (h *history) isError(c ccm.Check) bool {
	return c.Level == h.own.Level && c.Maid == h.own.Maid &&
		(c.Interval != h.own.Interval || !slices.Contains(h.others, c.Mepid))
}

// isOf asks for checks that the other one of that number was heard by.
func (h *history) isOf(n uint16) func(c ccm.Check) bool {
	return func(c ccm.Check) bool {
		return !h.isCross(c) && !h.isError(c) && c.Level == h.own.Level && c.Mepid == n
	}
}

// lists answers who is lost, and who tells of a defect.
func (h *history) lists() (lost, rdis []uint16) {
	for _, n := range slices.Sorted(slices.Values(h.others)) {
		of := h.isOf(n)
		there := h.lasting(of) || h.now < remote.Lasts(h.own.Interval)
		last := heard{}
		for _, x := range h.checks {
			if of(x.c) {
				last = x
			}
		}
		switch {
		case !there:
			lost = append(lost, n)
		case last.c.Rdi:
			rdis = append(rdis, n)
		}
	}
	return lost, rdis
}

func (h *history) worst() uint8 {
	lost, rdis := h.lists()
	switch {
	case h.lasting(h.isCross):
		return remote.Cross
	case h.lasting(h.isError):
		return remote.Error
	case len(lost) > 0:
		return remote.Lost
	case len(rdis) > 0:
		return remote.Rdi
	}
	return remote.None
}

// anyCheck is one by chance: mostly one that the others send.
func anyCheck(r *rand.Rand, o remote.Own) ccm.Check {
	c := from(o, uint16(2+r.IntN(4)))
	c.Rdi = r.IntN(3) == 0
	switch r.IntN(24) {
	case 0:
		c.Level = uint8(r.IntN(8))
	case 1:
		c.Maid = other
	case 2:
		c.Interval = 9 - c.Interval
	case 3:
		c.Mepid = 1
	case 4:
		c.Mepid = 77
	case 5:
		c.Interval = 9 - c.Interval
		c.Level = 2
	}
	return c
}

// P18.2 to P18.5: whatever is heard, whenever, a machine tells what follows from all that it heard.
func TestAgainstHistory(t *testing.T) {
	r := rand.New(rand.NewPCG(18, 1))
	for round := range 60 {
		o := own
		if round%2 == 1 {
			o = slow
		}
		h := &history{own: o, others: []uint16{5, 2, 3, 4}}
		m := machine(t, o, h.others...)
		for range 250 {
			if r.IntN(2) == 0 {
				c := anyCheck(r, o)
				h.checks = append(h.checks, heard{h.now, c})
				m.Hear(c)
			} else {
				h.now++
				m.Tick()
			}
			lost, rdis := h.lists()
			checkLost(t, m, lost...)
			checkRdis(t, m, rdis...)
			checkWorst(t, m, h.worst())
			if t.Failed() {
				t.Fatalf("in tick %d: %+v", h.now, h.checks)
			}
		}
	}
}
