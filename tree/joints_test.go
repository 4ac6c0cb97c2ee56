package tree_test

import (
	"math/rand/v2"
	"slices"
	"testing"

	"viaduct/api"
	"viaduct/bpdu"
	"viaduct/tree"
)

// end is a port of a machine.
type end struct {
	m    int
	port uint8
}

// joint joins two link ports by rows of words, one from each end.
type joint struct {
	ends [2]end
	up   bool
	rows [2][]bpdu.Bpdu
}

// joints are machines whose link ports are joined.
type joints struct {
	t     *testing.T
	r     *rand.Rand
	ids   []uint64
	costs [][]uint32
	ms    []*tree.Machine
	js    []joint
}

// anyJoints are machines of unlike ids, joined anyhow: to themselves, and by several joints, too.
func anyJoints(t *testing.T, r *rand.Rand) *joints {
	n := &joints{t: t, r: r}
	count := 1 + r.IntN(api.MaxBridges)
	most := []uint32{1, 3, 100, tree.MaxPortCost}[r.IntN(4)] // few costs: many ways are alike
	var free []end
	for i := range count {
		costs := make([]uint32, 1+r.IntN(api.MaxPorts))
		for port := range costs {
			costs[port] = 1 + r.Uint32N(most)
			free = append(free, end{i, uint8(port)})
		}
		n.costs = append(n.costs, costs)
	}
	r.Shuffle(len(free), func(i, j int) { free[i], free[j] = free[j], free[i] })
	for len(free) > 1 && len(n.js) < 24 && r.IntN(20) > 0 {
		n.js = append(n.js, joint{ends: [2]end{free[0], free[1]}})
		free = free[2:]
	}
	for _, e := range free {
		n.costs[e.m][e.port] = 0
	}
	for _, id := range r.Perm(3 * count)[:count] {
		n.ids = append(n.ids, uint64(id))
	}
	n.begin()
	return n
}

// begin makes the machines; all joints and host ports go up.
func (n *joints) begin() {
	for i, costs := range n.costs {
		m, e := tree.New(n.ids[i], costs)
		if e != api.OK {
			n.t.Fatal(n.ids[i], costs, e)
		}
		n.ms = append(n.ms, m)
		for port, cost := range costs {
			if cost == 0 {
				m.Up(uint8(port))
			}
		}
	}
	for i := range n.js {
		n.turn(i)
	}
}

// turn lets a joint that is down go up, and one that is up go down, with all that is under way.
func (n *joints) turn(i int) {
	j := &n.js[i]
	j.up = !j.up
	j.rows = [2][]bpdu.Bpdu{}
	for _, e := range j.ends {
		turn := n.ms[e.m].Down
		if j.up {
			turn = n.ms[e.m].Up
		}
		if l := turn(e.port); len(l) > 0 {
			n.t.Fatal("sent", l)
		}
	}
}

// put lays what a machine sends into the rows, if it may be a word.
func (n *joints) put(from int, l []tree.Sent) {
	for _, s := range l {
		if _, e := bpdu.Put(s.B); e != api.OK {
			n.t.Fatalf("%+v is no word that may be", s.B)
		}
		n.row(end{from, s.Port}, s.B)
	}
}

func (n *joints) row(from end, b bpdu.Bpdu) {
	for i := range n.js {
		for side, e := range n.js[i].ends {
			if e == from && n.js[i].up {
				n.js[i].rows[side] = append(n.js[i].rows[side], b)
				return
			}
		}
	}
	n.t.Fatalf("%v sent, but is not joined, or is down", from)
}

// come lets the first word of a row come, if there is one; or it is lost.
func (n *joints) come(i, side int, lost bool) bool {
	row := n.js[i].rows[side]
	if len(row) == 0 {
		return false
	}
	n.js[i].rows[side] = row[1:]
	if to := n.js[i].ends[1-side]; !lost {
		n.put(to.m, n.ms[to.m].Hear(to.port, row[0]))
	}
	return true
}

// step lets anything happen; rarer tells how seldom joints turn.
func (n *joints) step(rarer int) {
	if len(n.js) == 0 || n.r.IntN(4) == 0 {
		i := n.r.IntN(len(n.ms))
		n.put(i, n.ms[i].Tick())
		return
	}
	i := n.r.IntN(len(n.js))
	if n.r.IntN(rarer) == 0 {
		n.turn(i)
		return
	}
	n.come(i, n.r.IntN(2), n.r.IntN(8) == 0)
}

// round lets all machines tick, in any order, and all words come, some of them in between.
func (n *joints) round() {
	for _, i := range n.r.Perm(len(n.ms)) {
		n.put(i, n.ms[i].Tick())
		if n.r.IntN(4) == 0 {
			n.drain()
		}
	}
	for count := 0; n.drain(); count++ {
		if count > 10000 {
			n.t.Fatal("words come without end")
		}
	}
}

// drain lets one word of each row come, in any order, and tells whether there were any.
func (n *joints) drain() bool {
	some := false
	for _, k := range n.r.Perm(2 * len(n.js)) {
		some = n.come(k/2, k%2, false) || some
	}
	return some
}

// isEdge tells whether a joint forwards at both ends.
func (n *joints) isEdge(j joint) bool {
	return j.up && n.ms[j.ends[0].m].Forwards(j.ends[0].port) && n.ms[j.ends[1].m].Forwards(j.ends[1].port)
}

// checkForest holds that the edges make no cycle.
func (n *joints) checkForest(at string) {
	n.t.Helper()
	of := make([]int, len(n.ms)) // whichever machine stands for those that hang together
	for i := range of {
		of[i] = i
	}
	for _, j := range n.js {
		if !n.isEdge(j) {
			continue
		}
		a, b := of[j.ends[0].m], of[j.ends[1].m]
		if a == b {
			n.t.Fatalf("%s: the edges make a cycle, by %v", at, j.ends)
		}
		for i := range of {
			if of[i] == b {
				of[i] = a
			}
		}
	}
}

// best is the least id that each machine is joined with, and the least way there, as so many steps of better ways find them.
func (n *joints) best() ([]uint64, []uint32) {
	ids, costs := slices.Clone(n.ids), make([]uint32, len(n.ids))
	for range 2 * len(n.ms) {
		for _, j := range n.js {
			for side := range 2 {
				to, from := j.ends[side], j.ends[1-side].m
				id, cost := ids[from], costs[from]+n.costs[to.m][to.port]
				if j.up && (id < ids[to.m] || id == ids[to.m] && cost < costs[to.m]) {
					ids[to.m], costs[to.m] = id, cost
				}
			}
		}
	}
	return ids, costs
}

// checkSettled holds that roots, costs, root ports and edges are those of the graph.
func (n *joints) checkSettled(at string) {
	n.t.Helper()
	ids, costs := n.best()
	rootPorts := make([]int, len(n.ms))
	for i, m := range n.ms {
		if id, cost, _ := m.Root(); id != ids[i] || cost != costs[i] {
			n.t.Fatalf("%s: root %d, cost %d of machine %d; want %d, %d", at, id, cost, n.ids[i], ids[i], costs[i])
		}
	}
	for _, j := range n.js {
		roots := 0
		for side, e := range j.ends {
			if n.ms[e.m].Role(e.port) == tree.Root {
				roots++
				rootPorts[e.m]++
				if from := j.ends[1-side].m; costs[from]+n.costs[e.m][e.port] != costs[e.m] {
					n.t.Fatalf("%s: the root port of machine %d is on no least way", at, n.ids[e.m])
				}
			}
		}
		if n.isEdge(j) != (roots == 1) {
			n.t.Fatalf("%s: %v forwards at both ends: %t; of %d root ports", at, j.ends, n.isEdge(j), roots)
		}
	}
	for i, count := range rootPorts {
		if (count == 1) != (ids[i] != n.ids[i]) || count > 1 {
			n.t.Fatalf("%s: %d root ports of machine %d", at, count, n.ids[i])
		}
	}
}

// P9.6: whatever is late, or lost, whenever joints turn, there is no cycle. P9.7: in quiet rounds the tree comes to stand, and stands.
func TestForestAndTree(t *testing.T) {
	for seed := range uint64(1500) {
		r := rand.New(rand.NewPCG(9, seed))
		n := anyJoints(t, r)
		rarer := 3 + r.IntN(200)
		for range r.IntN(600) {
			n.step(rarer)
			n.checkForest("steps")
		}
		for range api.Settle {
			n.round()
			n.checkForest("rounds")
		}
		n.checkSettled("behind Settle")
		_, _, before := n.ms[0].Root()
		for range 10 {
			n.round()
			n.checkSettled("later")
		}
		if _, _, v := n.ms[0].Root(); v != before {
			t.Fatal("a tree that stands has new versions")
		}
	}
}

// P9.6: a net whose words come in time, but whose joints turn again and again, has no cycle between any two steps of a round.
func TestForestInRounds(t *testing.T) {
	for seed := range uint64(300) {
		n := anyJoints(t, rand.New(rand.NewPCG(10, seed)))
		for range 20 {
			if len(n.js) > 0 {
				n.turn(n.r.IntN(len(n.js)))
			}
			for i, m := range n.ms {
				n.put(i, m.Tick())
				n.checkForest("ticks")
			}
			for n.drain() {
				n.checkForest("drain")
			}
		}
	}
}

// three is a ring of the machines 1, 2 and 3, of costs of 10.
func three(t *testing.T) *joints {
	n := &joints{t: t, r: rand.New(rand.NewPCG(0, 0)), ids: []uint64{1, 2, 3}}
	n.costs = [][]uint32{{10, 10}, {10, 10}, {10, 10}}
	for i := range 3 {
		n.js = append(n.js, joint{ends: [2]end{{i, 1}, {(i + 1) % 3, 0}}})
	}
	n.begin()
	return n
}

// The examples of the whole: of a ring one port is Alternate; without a joint the other two are edges, three rounds later.
func TestRing(t *testing.T) {
	n := three(t)
	for range 4 {
		n.round()
	}
	checkRoles(t, n.ms[0], des, des)
	checkRoles(t, n.ms[1], root, des)
	checkRoles(t, n.ms[2], alt, root)
	checkForwards(t, n.ms[2], 0b10)
	n.checkSettled("ring")
	_, _, before := n.ms[1].Root()
	n.turn(0)
	checkRoot(t, n.ms[1], 2, 0, before+1)
	checkForwards(t, n.ms[1], 0)
	for range 3 {
		n.round()
	}
	n.checkSettled("line")
	if !n.isEdge(n.js[1]) || !n.isEdge(n.js[2]) {
		t.Fatal("the other two joints are no edges")
	}
}

// P9.7: what was told of a root that is gone is believed no more, behind Settle.
func TestGoneRoot(t *testing.T) {
	n := three(t)
	for range 5 {
		n.round()
	}
	n.turn(0)
	n.turn(2)
	for range api.Settle {
		n.round()
	}
	n.checkSettled("without 1")
	id, cost, _ := n.ms[2].Root()
	if id != 2 || cost != 10 {
		t.Fatal(id, cost)
	}
}
