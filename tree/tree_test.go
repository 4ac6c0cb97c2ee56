package tree_test

import (
	"math"
	"slices"
	"testing"

	"viaduct/api"
	"viaduct/bpdu"
	"viaduct/tree"
	"viaduct/vector"
)

// Short names of roles, in the order of ports.
const (
	dis  = tree.Disabled
	root = tree.Root
	des  = tree.Designated
	alt  = tree.Alternate
	back = tree.Backup
	edge = tree.Edge
)

// of is a machine of these costs, whose ports are down.
func of(t *testing.T, id uint64, costs ...uint32) *tree.Machine {
	t.Helper()
	m, e := tree.New(id, costs)
	if m == nil || e != api.OK {
		t.Fatalf("New(%d, %v) = %v, %d", id, costs, m, e)
	}
	return m
}

// upOf is a machine of these costs, whose ports are up.
func upOf(t *testing.T, id uint64, costs ...uint32) *tree.Machine {
	t.Helper()
	m := of(t, id, costs...)
	for i := range costs {
		checkSent(t, m.Up(uint8(i)))
	}
	return m
}

// vec is a vector.
func vec(root uint64, cost uint32, bridge uint64, port uint8) vector.Vector {
	return vector.Vector{Root: root, Cost: cost, Bridge: bridge, Port: port}
}

// says is a Designated word of a vector, that does not propose.
func says(v vector.Vector) bpdu.Bpdu {
	return bpdu.Bpdu{V: v, Version: 1, Role: bpdu.Designated}
}

// agrees is a Root word of a bridge beyond 1,000, that echoes a version.
func agrees(echo uint64) bpdu.Bpdu {
	return bpdu.Bpdu{V: vec(1000, 0, 1000, 0), Version: 1, Role: bpdu.Root, Agree: true, Echo: echo}
}

// tells is the word, with a topology change.
func tells(b bpdu.Bpdu) bpdu.Bpdu {
	b.Topology = true
	return b
}

// proposes is the word, with a proposal.
func proposes(b bpdu.Bpdu) bpdu.Bpdu {
	b.Proposal = true
	return b
}

// hops is the word, with so many hops.
func hops(b bpdu.Bpdu, n uint8) bpdu.Bpdu {
	b.Hops = n
	return b
}

// ticks lets so many ticks go by.
func ticks(m *tree.Machine, count int) {
	for range count {
		m.Tick()
	}
}

func checkRoot(t *testing.T, m *tree.Machine, id uint64, cost uint32, version uint64) {
	t.Helper()
	if r, c, v := m.Root(); r != id || c != cost || v != version {
		t.Fatalf("Root() = %d, %d, %d; want %d, %d, %d", r, c, v, id, cost, version)
	}
}

// checkRoles holds that ports have these roles, and all behind them none.
func checkRoles(t *testing.T, m *tree.Machine, want ...uint8) {
	t.Helper()
	for port := range 256 {
		w := dis
		if port < len(want) {
			w = want[port]
		}
		if got := m.Role(uint8(port)); got != w {
			t.Fatalf("Role(%d) = %d; want %d", port, got, w)
		}
	}
}

// checkForwards holds that just the ports of that set forward.
func checkForwards(t *testing.T, m *tree.Machine, want uint8) {
	t.Helper()
	for port := range 256 {
		if got := m.Forwards(uint8(port)); got != (uint64(want)>>port&1 == 1) {
			t.Fatalf("Forwards(%d) = %t; want those of %08b", port, got, want)
		}
	}
}

// checkFlush holds that these ports were to be flushed, and are no more.
func checkFlush(t *testing.T, m *tree.Machine, want uint8) {
	t.Helper()
	if got := m.Flush(); got != want {
		t.Fatalf("Flush() = %08b; want %08b", got, want)
	}
	if got := m.Flush(); got != 0 {
		t.Fatalf("Flush() once more = %08b", got)
	}
}

func checkSent(t *testing.T, got []tree.Sent, want ...tree.Sent) {
	t.Helper()
	if !slices.Equal(got, want) {
		t.Fatalf("sent %+v; want %+v", got, want)
	}
}

// checkSpreads holds by which ports a tick's words tell of a topology change.
func checkSpreads(t *testing.T, m *tree.Machine, want uint8) {
	t.Helper()
	var got uint8
	for _, s := range m.Tick() {
		if s.B.Topology {
			got |= 1 << s.Port
		}
	}
	if got != want {
		t.Fatalf("spread by %08b; want %08b", got, want)
	}
}

// The chapter's examples.
func TestExamples(t *testing.T) {
	m := upOf(t, 5, 10, 10, 0)
	checkRoot(t, m, 5, 0, 1)
	checkRoles(t, m, des, des, edge)
	checkSent(t, m.Hear(0, says(vec(3, 7, 3, 0))))
	checkRoot(t, m, 3, 17, 2)
	checkRoles(t, m, root, des, edge)
	checkSent(t, m.Hear(1, says(vec(3, 7, 4, 0))))
	checkRoot(t, m, 3, 17, 2)
	checkRoles(t, m, root, alt, edge)
	checkForwards(t, m, 0b101)
}

// P9.1: of which costs there is a machine.
func TestNew(t *testing.T) {
	for _, c := range []struct {
		costs []uint32
		want  api.Errno
	}{
		{nil, api.ErrArg},
		{[]uint32{}, api.ErrArg},
		{make([]uint32, 1), api.OK},
		{make([]uint32, 8), api.OK},
		{make([]uint32, 9), api.ErrArg},
		{make([]uint32, 256), api.ErrArg},
		{make([]uint32, 257), api.ErrArg},
		{[]uint32{65535}, api.OK},
		{[]uint32{65536}, api.ErrArg},
		{[]uint32{math.MaxUint32}, api.ErrArg},
		{[]uint32{1, 0, 1, 0, 1, 0, 1, 65535}, api.OK},
		{[]uint32{1, 0, 1, 0, 1, 0, 1, 65536}, api.ErrArg},
	} {
		m, e := tree.New(7, c.costs)
		if e != c.want || (m == nil) != (e != api.OK) {
			t.Errorf("New(7, %v) = %v, %d; want %d", c.costs, m, e, c.want)
		}
	}
}

// P9.1: at first a machine is its own root, its ports are down, and there is nothing to send or to flush.
func TestAtFirst(t *testing.T) {
	for _, id := range []uint64{0, 1, 1 << 63, math.MaxUint64} {
		m := of(t, id, 4, 0, 65535)
		checkRoot(t, m, id, 0, 1)
		checkRoles(t, m)
		checkForwards(t, m, 0)
		checkFlush(t, m, 0)
		checkSent(t, m.Tick())
		checkRoot(t, m, id, 0, 1)
	}
}

// P9.1: the list of costs is not changed, and not kept (R3).
func TestNewKeepsNothing(t *testing.T) {
	costs := append(make([]uint32, 0, 3), 10, 20)
	m, _ := tree.New(5, costs)
	if !slices.Equal(costs[:3], []uint32{10, 20, 0}) {
		t.Fatal("the costs were changed", costs[:3])
	}
	costs[0], costs[1] = 0, 9
	m.Up(0)
	m.Up(1)
	m.Hear(1, says(vec(3, 7, 3, 0)))
	checkRoles(t, m, des, root)
	checkRoot(t, m, 3, 27, 2)
}

// P9.2: a port that goes up is Designated, or a host's an Edge, which forwards; nothing else is changed.
func TestUp(t *testing.T) {
	m := of(t, 5, 10, 0)
	checkSent(t, m.Up(0))
	checkRoles(t, m, des, dis)
	checkForwards(t, m, 0)
	checkSent(t, m.Up(1))
	checkRoles(t, m, des, edge)
	checkForwards(t, m, 0b10)
	checkRoot(t, m, 5, 0, 1)
	checkFlush(t, m, 0)
	checkSpreads(t, m, 0)
}

// P9.2: of a port that is up already, or that there is not, nothing goes up.
func TestUpOfOthers(t *testing.T) {
	m := upOf(t, 5, 10, 10)
	m.Hear(0, says(vec(3, 7, 3, 0)))
	m.Hear(1, agrees(2))
	checkFlush(t, m, 0b11)
	for port := range 256 {
		checkSent(t, m.Up(uint8(port)))
	}
	checkRoles(t, m, root, des)
	checkForwards(t, m, 0b11)
	checkRoot(t, m, 3, 17, 2)
	checkFlush(t, m, 0)
	checkSpreads(t, m, 0b11)
}

// P9.2: a port that goes down is Disabled, and it alone is to be flushed if the way stays.
func TestDown(t *testing.T) {
	m := upOf(t, 5, 10, 10, 0, 0)
	m.Hear(0, says(vec(3, 7, 3, 0)))
	m.Flush()
	checkSent(t, m.Down(1))
	checkRoles(t, m, root, dis, edge, edge)
	checkFlush(t, m, 0b10)
	checkSent(t, m.Down(2))
	checkRoles(t, m, root, dis, dis, edge)
	checkForwards(t, m, 0b1001)
	checkRoot(t, m, 3, 17, 2)
	checkFlush(t, m, 0b100)
	m.Down(3)
	m.Up(3)
	m.Up(1)
	m.Down(1)
	checkFlush(t, m, 0b1010)
}

// P9.2: of a port that is down already, or that there is not, nothing goes down.
func TestDownOfOthers(t *testing.T) {
	m := upOf(t, 5, 10, 10, 0)
	m.Down(1)
	m.Hear(0, says(vec(3, 7, 3, 0)))
	checkFlush(t, m, 0b111)
	for port := range 256 {
		if port != 0 && port != 2 {
			checkSent(t, m.Down(uint8(port)))
		}
	}
	checkFlush(t, m, 0)
	checkRoles(t, m, root, dis, edge)
	checkRoot(t, m, 3, 17, 2)
}

// P9.2: without its root port a machine chooses anew.
func TestDownOfRoot(t *testing.T) {
	m := upOf(t, 5, 10, 10, 10, 0)
	m.Hear(0, says(vec(3, 7, 3, 0)))
	m.Hear(1, says(vec(3, 9, 4, 0)))
	m.Hear(2, agrees(2))
	checkForwards(t, m, 0b1101)
	ticks(m, 2)
	m.Flush()
	m.Down(0)
	checkRoles(t, m, dis, root, des, edge)
	checkForwards(t, m, 0b1010)
	checkRoot(t, m, 3, 19, 3)
	checkFlush(t, m, 0b1111)
	for range api.Spread {
		m.Hear(1, says(vec(3, 9, 4, 0)))
		checkSpreads(t, m, 0b110)
	}
	checkSpreads(t, m, 0)
	m.Down(1)
	checkRoot(t, m, 5, 0, 4)
	checkRoles(t, m, dis, dis, des, edge)
}

// P9.2: a port that went down and up has heard nothing, is not agreed and does not spread.
func TestDownAndUp(t *testing.T) {
	m := upOf(t, 5, 10, 10, 10)
	m.Hear(0, says(vec(3, 7, 3, 0)))
	m.Hear(1, says(vec(3, 9, 4, 0)))
	m.Hear(2, agrees(2))
	checkRoles(t, m, root, alt, des)
	checkForwards(t, m, 0b101)
	m.Down(1)
	m.Up(1)
	checkRoles(t, m, root, des, des)
	m.Down(2)
	m.Up(2)
	checkForwards(t, m, 0b001)
	checkSpreads(t, m, 0b001)
	m.Down(0)
	m.Up(0)
	checkRoot(t, m, 5, 0, 3)
	checkRoles(t, m, des, des, des)
	checkSpreads(t, m, 0b110)
}

// P9.3: what was heard lasts three ticks from when it was heard last.
func TestLasts(t *testing.T) {
	m := upOf(t, 5, 10, 10)
	m.Hear(0, says(vec(3, 7, 3, 0)))
	m.Hear(1, says(vec(3, 8, 4, 0)))
	ticks(m, 2)
	checkRoot(t, m, 3, 17, 2)
	m.Hear(0, says(vec(3, 7, 3, 0)))
	checkRoles(t, m, root, alt)
	ticks(m, 1)
	checkRoles(t, m, root, des)
	ticks(m, 1)
	checkRoot(t, m, 3, 17, 2)
	checkFlush(t, m, 0b11)
	ticks(m, 1)
	checkRoot(t, m, 5, 0, 3)
	checkRoles(t, m, des, des)
	checkFlush(t, m, 0b11)
	ticks(m, 5)
	checkRoot(t, m, 5, 0, 3)
}

// P9.3: a tick chooses ahead of what it sends.
func TestTickChooses(t *testing.T) {
	m := upOf(t, 5, 10, 10)
	m.Hear(0, says(vec(3, 7, 3, 0)))
	ticks(m, 2)
	checkSent(t, m.Tick(),
		tree.Sent{Port: 0, B: bpdu.Bpdu{V: vec(5, 0, 5, 0), Version: 3, Role: bpdu.Designated, Proposal: true, Topology: true}},
		tree.Sent{Port: 1, B: bpdu.Bpdu{V: vec(5, 0, 5, 1), Version: 3, Role: bpdu.Designated, Proposal: true, Topology: true}})
}

// P9.3: the words of link ports that are up, by ports: all of what they say.
func TestWords(t *testing.T) {
	m := of(t, 9, 1, 2, 0, 4, 5, 6, 7, 8)
	for _, port := range []uint8{7, 6, 5, 4, 3, 2, 1} {
		m.Up(port)
	}
	checkSent(t, m.Tick(),
		tree.Sent{Port: 1, B: proposes(says(vec(9, 0, 9, 1)))},
		tree.Sent{Port: 3, B: proposes(says(vec(9, 0, 9, 3)))},
		tree.Sent{Port: 4, B: proposes(says(vec(9, 0, 9, 4)))},
		tree.Sent{Port: 5, B: proposes(says(vec(9, 0, 9, 5)))},
		tree.Sent{Port: 6, B: proposes(says(vec(9, 0, 9, 6)))},
		tree.Sent{Port: 7, B: proposes(says(vec(9, 0, 9, 7)))})
	m.Hear(4, bpdu.Bpdu{V: vec(2, 3, 4, 5), Hops: 6, Version: 77, Role: bpdu.Designated})
	m.Hear(3, says(vec(2, 7, 4, 6)))
	m.Hear(7, agrees(2))
	m.Hear(6, says(vec(2, 8, 9, 5)))
	m.Down(5)
	checkRoles(t, m, dis, des, edge, alt, root, dis, back, des)
	word := func(port, role uint8) bpdu.Bpdu {
		return bpdu.Bpdu{V: vec(2, 8, 9, port), Hops: 7, Version: 2, Role: role}
	}
	one, four := proposes(word(1, bpdu.Designated)), word(4, bpdu.Root)
	four.Agree, four.Echo = true, 77
	all := []bpdu.Bpdu{one, word(3, bpdu.Other), four, word(6, bpdu.Other), word(7, bpdu.Designated)}
	for n := range 2 {
		got := m.Tick()
		if len(got) != len(all) {
			t.Fatal(n, got)
		}
		for i, b := range all {
			if got[i] != (tree.Sent{Port: b.V.Port, B: tells(b)}) {
				t.Errorf("%d: %+v; want %+v", n, got[i], b)
			}
		}
	}
}

// P9.3: what is sent is new memory (R3).
func TestSentIsNew(t *testing.T) {
	m := upOf(t, 5, 10, 10)
	got := m.Tick()
	want := slices.Clone(got)
	clear(got[:cap(got)])
	checkSent(t, m.Tick(), want...)
	got = m.Hear(0, proposes(says(vec(3, 7, 3, 0))))
	want = slices.Clone(got)
	clear(got[:cap(got)])
	checkSent(t, m.Hear(0, proposes(says(vec(3, 7, 3, 0)))), want...)
}

// P9.3: a topology change is told by the words of four ticks; ports that are down or go up later tell nothing.
func TestSpreads(t *testing.T) {
	m := of(t, 5, 10, 10, 0, 10)
	m.Up(0)
	m.Up(1)
	m.Up(2)
	m.Hear(0, says(vec(3, 7, 3, 0)))
	m.Up(3)
	for range api.Spread {
		m.Hear(0, says(vec(3, 7, 3, 0)))
		checkSpreads(t, m, 0b0011)
	}
	m.Hear(0, says(vec(3, 7, 3, 0)))
	checkSpreads(t, m, 0)
	// A new way begins the count anew, of what spreads yet, too.
	m.Hear(0, says(vec(3, 6, 3, 0)))
	ticks(m, 2)
	m.Hear(0, says(vec(3, 5, 3, 0)))
	for range api.Spread {
		m.Hear(0, says(vec(3, 5, 3, 0)))
		checkSpreads(t, m, 0b1011)
	}
	checkSpreads(t, m, 0)
}

// P9.4: of which words there is a path, and what becomes of the port by which the others come.
func TestPaths(t *testing.T) {
	role := func(b bpdu.Bpdu, r uint8) bpdu.Bpdu {
		b.Role = r
		return b
	}
	near := says(vec(3, 7, 3, 0))
	for _, c := range []struct {
		name    string
		b       bpdu.Bpdu
		id      uint64
		cost    uint32
		version uint64
		role    uint8
	}{
		{"Designated", near, 3, 17, 2, root},
		{"Root", role(near, bpdu.Root), 5, 0, 1, alt},
		{"Other", role(near, bpdu.Other), 5, 0, 1, alt},
		{"no role", role(near, 0), 5, 0, 1, alt},
		{"no such role", role(near, 255), 5, 0, 1, alt},
		{"own bridge", says(vec(3, 7, 5, 1)), 5, 0, 1, back},
		{"own bridge as root", says(vec(5, 0, 5, 1)), 5, 0, 1, des},
		{"own port", says(vec(5, 0, 5, 0)), 5, 0, 1, back},
		{"own root of another one", says(vec(5, 0, 4, 0)), 5, 0, 1, alt},
		{"own root of a later one", says(vec(5, 0, 6, 0)), 5, 0, 1, des},
		{"greater root", says(vec(6, 0, 4, 0)), 5, 0, 1, des},
		{"hops below MaxHops", hops(near, 19), 3, 17, 2, root},
		{"MaxHops", hops(near, 20), 5, 0, 1, alt},
		{"most hops", hops(near, 255), 5, 0, 1, alt},
		{"farthest", says(vec(3, 1<<24-10, 3, 0)), 3, 1 << 24, 2, root},
		{"too far", says(vec(3, 1<<24-9, 3, 0)), 5, 0, 1, alt},
		{"all too far", says(vec(3, math.MaxUint32, 3, 255)), 5, 0, 1, alt},
		{"zero", bpdu.Bpdu{}, 5, 0, 1, alt},
	} {
		m := upOf(t, 5, 10, 10)
		checkSent(t, m.Hear(0, c.b))
		if got := m.Role(0); got != c.role {
			t.Errorf("%s: role %d; want %d", c.name, got, c.role)
		}
		if id, cost, v := m.Root(); id != c.id || cost != c.cost || v != c.version {
			t.Errorf("%s: root %d, %d, version %d", c.name, id, cost, v)
		}
		if m.Forwards(0) != (c.role == root) {
			t.Errorf("%s: forwards is %t", c.name, m.Forwards(0))
		}
	}
}

// P9.4: a word is told on with one hop more; hops alone make no new version.
func TestHops(t *testing.T) {
	m := upOf(t, 5, 10, 10)
	for _, n := range []uint8{0, 7, 19, 3} {
		m.Hear(0, hops(says(vec(3, 7, 3, 0)), n))
		checkRoot(t, m, 3, 17, 2)
		for _, s := range m.Tick() {
			if s.B.Hops != n+1 {
				t.Fatalf("hops %d behind %d", s.B.Hops, n)
			}
		}
	}
	m.Hear(0, hops(says(vec(3, 7, 3, 0)), 20))
	checkRoot(t, m, 5, 0, 3)
	if s := m.Tick(); s[1].B.Hops != 0 {
		t.Fatal("hops of a root", s)
	}
}

// P9.4: the least path is chosen: by root, cost with the port's, bridge, its port, and one's own port.
func TestLeast(t *testing.T) {
	for _, c := range []struct {
		name string
		a, b vector.Vector // of a cost of 10, and of 11
		want uint8
	}{
		{"root", vec(3, 0, 3, 0), vec(2, 99, 4, 7), 1},
		{"cost as heard", vec(3, 7, 3, 0), vec(3, 7, 3, 0), 0},
		{"cost with the port's", vec(3, 7, 4, 0), vec(3, 6, 3, 0), 1},
		{"bridge", vec(3, 7, 3, 7), vec(3, 6, 4, 0), 0},
		{"port", vec(3, 7, 3, 2), vec(3, 6, 3, 1), 1},
		{"own port", vec(3, 7, 3, 2), vec(3, 6, 3, 2), 0},
	} {
		for _, first := range []uint8{0, 1} {
			m := upOf(t, 5, 10, 11)
			words := [2]bpdu.Bpdu{says(c.a), says(c.b)}
			m.Hear(first, words[first])
			m.Hear(1-first, words[1-first])
			if m.Role(c.want) != root || m.Role(1-c.want) == root {
				t.Errorf("%s: roles %d, %d", c.name, m.Role(0), m.Role(1))
			}
			version := uint64(2)
			if first != c.want {
				version = 3
			}
			if _, _, v := m.Root(); v != version {
				t.Errorf("%s: version %d; want %d", c.name, v, version)
			}
		}
	}
}

// P9.4: another root, cost or root port is a new version: no port is agreed, all are to be flushed; another bridge on the same way is not.
func TestVersion(t *testing.T) {
	for _, c := range []struct {
		name string
		in   uint8
		v    vector.Vector
		more uint64
	}{
		{"same", 0, vec(3, 7, 3, 0), 0},
		{"bridge", 0, vec(3, 7, 4, 5), 0},
		{"root", 0, vec(2, 7, 3, 0), 1},
		{"less cost", 0, vec(3, 6, 3, 0), 1},
		{"more cost", 0, vec(3, 8, 3, 0), 1},
		{"root port", 1, vec(3, 7, 2, 0), 1},
		{"lost root", 0, vec(9, 7, 3, 0), 1},
	} {
		m := upOf(t, 5, 10, 10, 10, 0)
		m.Hear(0, says(vec(3, 7, 3, 0)))
		m.Hear(2, agrees(2))
		m.Down(3)
		checkForwards(t, m, 0b0101)
		m.Flush()
		m.Hear(c.in, says(c.v))
		_, _, v := m.Root()
		if v != 2+c.more || m.Forwards(2) != (c.more == 0) {
			t.Errorf("%s: version %d, forwards is %t", c.name, v, m.Forwards(2))
		}
		if f := m.Flush(); f != uint8(c.more)*0b1111 {
			t.Errorf("%s: flush %08b", c.name, f)
		}
	}
}

// P9.4: of eight ports all are to be flushed with a new way.
func TestFlushOfEight(t *testing.T) {
	m := upOf(t, 5, 10, 10, 0, 0, 0, 0, 0, 10)
	m.Hear(7, says(vec(3, 7, 3, 0)))
	checkFlush(t, m, 0b11111111)
	m.Hear(7, tells(says(vec(3, 7, 3, 0))))
	checkFlush(t, m, 0b01111111)
	m.Down(7)
	m.Down(6)
	checkFlush(t, m, 0b11111111)
}

// P9.4: a Designated port is agreed just by a word that agrees, and echoes the present version.
func TestAgreed(t *testing.T) {
	no := agrees(2)
	no.Agree = false
	better := agrees(2)
	better.V = vec(3, 16, 4, 0)
	for _, c := range []struct {
		name string
		b    bpdu.Bpdu
		want bool
	}{
		{"present", agrees(2), true},
		{"past", agrees(1), false},
		{"to come", agrees(3), false},
		{"zero", agrees(0), false},
		{"no agreement", no, false},
		{"to no Designated port", better, false},
	} {
		m := upOf(t, 5, 10, 10)
		m.Hear(0, says(vec(3, 7, 3, 0)))
		checkSent(t, m.Hear(1, c.b))
		if m.Forwards(1) != c.want {
			t.Errorf("%s: forwards is %t", c.name, m.Forwards(1))
		}
		if b := m.Tick()[1].B; b.Proposal != (!c.want && m.Role(1) == des) {
			t.Errorf("%s: proposes is %t", c.name, b.Proposal)
		}
	}
}

// P9.4: an agreement that comes to a port that is not Designated is none, later neither.
func TestAgreedTooEarly(t *testing.T) {
	m := upOf(t, 5, 10, 10)
	b := agrees(1)
	b.V = vec(3, 7, 4, 0)
	m.Hear(1, b)
	checkRoles(t, m, des, alt)
	m.Hear(1, says(vec(6, 0, 6, 0)))
	checkRoles(t, m, des, des)
	checkForwards(t, m, 0)
	m.Hear(1, b)
	checkRoles(t, m, des, alt)
	ticks(m, api.Heard)
	checkRoles(t, m, des, des)
	checkForwards(t, m, 0)
}

// P9.4: what is agreed stays so, whatever is heard or not, till the port is no more Designated.
func TestStaysAgreed(t *testing.T) {
	m := upOf(t, 5, 10, 10)
	m.Hear(1, agrees(1))
	checkForwards(t, m, 0b10)
	m.Hear(1, agrees(9))
	m.Hear(1, says(vec(6, 0, 6, 0)))
	checkForwards(t, m, 0b10)
	ticks(m, 9)
	checkForwards(t, m, 0b10)
	b := says(vec(5, 0, 4, 0))
	m.Hear(1, b)
	checkRoles(t, m, des, alt)
	checkForwards(t, m, 0)
	m.Hear(1, says(vec(6, 0, 6, 0)))
	checkRoles(t, m, des, des)
	checkForwards(t, m, 0)
	checkRoot(t, m, 5, 0, 1)
	m.Hear(1, agrees(1))
	m.Hear(1, says(vec(4, 0, 4, 0)))
	checkRoles(t, m, des, root)
	m.Hear(1, says(vec(6, 0, 6, 0)))
	checkForwards(t, m, 0)
}

// P9.4: the word that is heard is chosen by ahead of its agreement.
func TestAgreesBehindChoice(t *testing.T) {
	m := upOf(t, 5, 10, 10)
	m.Hear(0, says(vec(3, 7, 3, 0)))
	// By this word the root is lost: the port is Designated, and the version 3.
	b := agrees(3)
	m.Hear(0, b)
	checkRoot(t, m, 5, 0, 3)
	checkForwards(t, m, 0b01)
	m.Hear(0, says(vec(3, 7, 3, 0)))
	m.Hear(0, agrees(4))
	checkRoot(t, m, 5, 0, 5)
	checkForwards(t, m, 0)
}

// spread is a machine 5, of a root port 0, a Designated port 1, an Alternate port 2, a host port 3, one that is down, and a Backup port 5, that spreads no more.
func spread(t *testing.T) *tree.Machine {
	t.Helper()
	m := upOf(t, 5, 10, 10, 10, 0, 10, 10)
	m.Down(4)
	for range 1 + api.Spread {
		m.Hear(0, says(vec(3, 7, 3, 0)))
		m.Hear(2, says(vec(3, 7, 4, 0)))
		m.Hear(5, says(vec(3, 17, 5, 1)))
		m.Tick()
	}
	checkRoles(t, m, root, des, alt, edge, dis, back)
	m.Flush()
	return m
}

// P9.4: which topology changes are told on, by which ports, and what is to be flushed.
func TestTopology(t *testing.T) {
	with := func(v vector.Vector, role uint8) bpdu.Bpdu {
		return bpdu.Bpdu{V: v, Version: 1, Role: role, Topology: true}
	}
	quiet := with(vec(3, 99, 9, 0), bpdu.Root)
	quiet.Topology = false
	for _, c := range []struct {
		name          string
		in            uint8
		b             bpdu.Bpdu
		flush, spread uint8
	}{
		{"Designated to Root", 0, with(vec(3, 7, 3, 0), bpdu.Designated), 0b111110, 0b100110},
		{"Root to Designated", 1, with(vec(3, 99, 9, 0), bpdu.Root), 0b111101, 0b100101},
		{"Designated to Designated", 1, with(vec(3, 99, 9, 0), bpdu.Designated), 0, 0},
		{"Other to Designated", 1, with(vec(3, 99, 9, 0), bpdu.Other), 0, 0},
		{"Designated to Alternate", 2, with(vec(3, 7, 4, 0), bpdu.Designated), 0, 0},
		{"Root to Alternate", 2, with(vec(3, 7, 4, 0), bpdu.Root), 0, 0},
		{"Designated to Backup", 5, with(vec(3, 17, 5, 1), bpdu.Designated), 0, 0},
		{"Root to Backup", 5, with(vec(3, 17, 5, 1), bpdu.Root), 0, 0},
		{"to Edge", 3, with(vec(3, 99, 9, 0), bpdu.Root), 0, 0},
		{"to Disabled", 4, with(vec(3, 99, 9, 0), bpdu.Root), 0, 0},
		{"none told", 1, quiet, 0, 0},
	} {
		t.Run(c.name, func(t *testing.T) {
			m := spread(t)
			checkSent(t, m.Hear(c.in, c.b))
			checkRoot(t, m, 3, 17, 2)
			checkFlush(t, m, c.flush)
			for range api.Spread {
				m.Hear(0, says(vec(3, 7, 3, 0)))
				checkSpreads(t, m, c.spread)
			}
			checkSpreads(t, m, 0)
		})
	}
}

// P9.4: what spreads is not told to spread longer, but is flushed.
func TestTopologyAgain(t *testing.T) {
	m := spread(t)
	change := bpdu.Bpdu{V: vec(3, 99, 9, 0), Version: 1, Role: bpdu.Root, Topology: true}
	m.Hear(1, change)
	checkFlush(t, m, 0b111101)
	for range 3 {
		m.Hear(0, says(vec(3, 7, 3, 0)))
		checkSpreads(t, m, 0b100101)
	}
	m.Hear(0, tells(says(vec(3, 7, 3, 0))))
	checkFlush(t, m, 0b111110)
	checkSpreads(t, m, 0b100111)
	for range 3 {
		m.Hear(0, says(vec(3, 7, 3, 0)))
		checkSpreads(t, m, 0b000010)
	}
	checkSpreads(t, m, 0)
}

// P9.4: a root port answers a proposal at once; no other one answers.
func TestProposal(t *testing.T) {
	m := upOf(t, 5, 10, 10, 0)
	b := proposes(says(vec(3, 7, 3, 4)))
	b.Version, b.Hops = 66, 2
	answer := bpdu.Bpdu{V: vec(3, 17, 5, 0), Hops: 3, Version: 2, Role: bpdu.Root, Agree: true, Topology: true, Echo: 66}
	checkSent(t, m.Hear(0, b), tree.Sent{Port: 0, B: answer})
	for range api.Spread {
		m.Hear(0, b)
		m.Tick()
	}
	b.Version, answer.Echo, answer.Topology = 67, 67, false
	checkSent(t, m.Hear(0, b), tree.Sent{Port: 0, B: answer})
	checkSent(t, m.Hear(0, tells(b)), tree.Sent{Port: 0, B: answer})
	b.Proposal = false
	checkSent(t, m.Hear(0, b))
	for _, v := range []vector.Vector{vec(3, 99, 9, 0), vec(3, 8, 4, 0), vec(3, 17, 5, 0)} {
		checkSent(t, m.Hear(1, proposes(says(v))))
		if m.Role(1) == root {
			t.Fatal(v)
		}
	}
	checkSent(t, m.Hear(2, b))
	checkRoot(t, m, 3, 17, 2)
}

// P9.4: a root port has the word that proposes as the one that was heard: one that makes it no root port is not answered.
func TestProposalBehindChoice(t *testing.T) {
	m := upOf(t, 5, 10, 10)
	m.Hear(0, says(vec(3, 7, 3, 0)))
	m.Hear(1, says(vec(3, 8, 4, 0)))
	checkSent(t, m.Hear(0, proposes(says(vec(3, 9, 3, 0)))))
	checkRoles(t, m, alt, root)
	checkSent(t, m.Hear(0, proposes(hops(says(vec(2, 0, 3, 0)), api.MaxHops))))
	checkRoles(t, m, alt, root)
}

// P9.4: at host ports, at ports that are down, and at those that there are not nothing is heard.
func TestHearOfOthers(t *testing.T) {
	m := upOf(t, 5, 10, 10, 0)
	m.Down(1)
	m.Flush()
	for port := 1; port < 256; port++ {
		checkSent(t, m.Hear(uint8(port), tells(proposes(says(vec(1, 0, 1, 0))))))
	}
	checkRoles(t, m, des, dis, edge)
	checkRoot(t, m, 5, 0, 1)
	checkFlush(t, m, 0)
	m.Up(1)
	checkRoles(t, m, des, des, edge)
	checkSpreads(t, m, 0)
}

// P9.5: which ports forward, by their roles.
func TestForwards(t *testing.T) {
	m := spread(t)
	checkForwards(t, m, 0b001001)
	m.Hear(1, agrees(2))
	checkForwards(t, m, 0b001011)
}

// P9.5: what is asked changes nothing, but for Flush; machines are apart (R2).
func TestAsk(t *testing.T) {
	m, n := spread(t), spread(t)
	other := upOf(t, 1, 10)
	for range 3 {
		checkRoles(t, m, root, des, alt, edge, dis, back)
		checkForwards(t, m, 0b001001)
		checkRoot(t, m, 3, 17, 2)
		checkFlush(t, m, 0)
		other.Hear(0, says(vec(0, 7, 3, 0)))
		other.Tick()
	}
	for range 4 {
		checkSent(t, m.Tick(), n.Tick()...)
	}
}

// P9.5: of nil there is nothing (R1).
func TestNil(t *testing.T) {
	var m *tree.Machine
	for port := range 256 {
		checkSent(t, m.Up(uint8(port)))
		checkSent(t, m.Down(uint8(port)))
		checkSent(t, m.Hear(uint8(port), proposes(says(vec(1, 2, 3, 4)))))
	}
	checkSent(t, m.Tick())
	checkRoles(t, m)
	checkForwards(t, m, 0)
	checkRoot(t, m, 0, 0, 0)
	checkFlush(t, m, 0)
}

// The constants are those of the chapter.
func TestConstants(t *testing.T) {
	all := []uint8{tree.Disabled, tree.Root, tree.Designated, tree.Alternate, tree.Backup, tree.Edge}
	if !slices.Equal(all, []uint8{0, 1, 2, 3, 4, 5}) || tree.MaxPortCost != 65535 {
		t.Error(all, tree.MaxPortCost)
	}
}
