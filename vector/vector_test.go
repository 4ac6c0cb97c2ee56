package vector_test

import (
	"encoding/binary"
	"math"
	"math/rand/v2"
	"slices"
	"strings"
	"testing"

	"viaduct/vector"
)

// key is a vector as bytes that stand in the order in which vectors must stand.
func key(v vector.Vector) string {
	b := binary.BigEndian.AppendUint64(nil, v.Root)
	b = binary.BigEndian.AppendUint32(b, v.Cost)
	b = binary.BigEndian.AppendUint64(b, v.Bridge)
	return string(append(b, v.Port))
}

// pathKey is the same of a path.
func pathKey(p vector.Path) string { return key(p.V) + string([]byte{p.In}) }

// inOrder is the vectors as Sort must answer them.
func inOrder(l []vector.Vector) []vector.Vector {
	out := slices.Clone(l)
	slices.SortFunc(out, func(a, b vector.Vector) int { return strings.Compare(key(a), key(b)) })
	return out
}

// grid is all vectors of some numbers, the least and the greatest ones among them.
func grid() []vector.Vector {
	var out []vector.Vector
	for _, root := range []uint64{0, 1, 1 << 63, math.MaxUint64} {
		for _, cost := range []uint32{0, 1, vector.MaxCost, 1 << 31, math.MaxUint32} {
			for _, bridge := range []uint64{0, 2, 1 << 32, math.MaxUint64} {
				for _, port := range []uint8{0, 7, 128, math.MaxUint8} {
					out = append(out, vector.Vector{Root: root, Cost: cost, Bridge: bridge, Port: port})
				}
			}
		}
	}
	return out
}

// someVector is a vector of small numbers, so that many are alike, or nearly so.
func someVector(rnd *rand.Rand) vector.Vector {
	return vector.Vector{
		Root:   uint64(rnd.IntN(3)),
		Cost:   uint32(rnd.IntN(3)),
		Bridge: uint64(rnd.IntN(3)),
		Port:   uint8(rnd.IntN(3)),
	}
}

// somePaths are n paths of small numbers.
func somePaths(rnd *rand.Rand, n int) []vector.Path {
	out := make([]vector.Path, n)
	for i := range out {
		out[i] = vector.Path{V: someVector(rnd), In: uint8(rnd.IntN(3))}
	}
	return out
}

// someVectors are n of them, and behind them room that holds more.
func someVectors(rnd *rand.Rand, n int) []vector.Vector {
	out := make([]vector.Vector, n+3)
	for i := range out {
		out[i] = someVector(rnd)
	}
	return out[:n]
}

func checkCompare(t *testing.T, a, b vector.Vector, want int) {
	t.Helper()
	if got := vector.Compare(a, b); got != want {
		t.Errorf("Compare(%v, %v) = %d; want %d", a, b, got, want)
	}
}

// P4.1: each number tells, if those ahead of it are the same, whatever those behind it.
func TestCompare(t *testing.T) {
	v := vector.Vector{Root: 5, Cost: 10, Bridge: 7, Port: 1}
	less := []vector.Vector{
		{Root: 4, Cost: 99, Bridge: 99, Port: 99},
		{Root: 4, Cost: 10, Bridge: 7, Port: 1},
		{Root: 5, Cost: 9, Bridge: 99, Port: 99},
		{Root: 5, Cost: 9, Bridge: 7, Port: 1},
		{Root: 5, Cost: 10, Bridge: 6, Port: 99},
		{Root: 5, Cost: 10, Bridge: 6, Port: 1},
		{Root: 5, Cost: 10, Bridge: 7, Port: 0},
		{},
	}
	greater := []vector.Vector{
		{Root: 6},
		{Root: 6, Cost: 10, Bridge: 7, Port: 1},
		{Root: 5, Cost: 11},
		{Root: 5, Cost: 11, Bridge: 7, Port: 1},
		{Root: 5, Cost: 10, Bridge: 8},
		{Root: 5, Cost: 10, Bridge: 8, Port: 1},
		{Root: 5, Cost: 10, Bridge: 7, Port: 2},
	}
	checkCompare(t, v, v, 0)
	for _, x := range less {
		checkCompare(t, x, v, -1)
		checkCompare(t, v, x, 1)
	}
	for _, x := range greater {
		checkCompare(t, x, v, 1)
		checkCompare(t, v, x, -1)
	}
	checkCompare(t, vector.Vector{Root: 1, Cost: 9, Bridge: 9, Port: 9}, vector.Vector{Root: 2}, -1)
	checkCompare(t, vector.Vector{}, vector.Vector{}, 0)
}

// P4.1, P4.4: numbers have no sign, and great ones don't go round: all stand in one order.
func TestCompareGrid(t *testing.T) {
	all := grid()
	for _, a := range all {
		for _, b := range all {
			checkCompare(t, a, b, strings.Compare(key(a), key(b)))
		}
	}
}

// P4.4: what is less than a lesser one is less; just the same is neither less nor greater.
func TestOneOrder(t *testing.T) {
	rnd := rand.New(rand.NewPCG(4, 4))
	for range 50000 {
		a, b, c := someVector(rnd), someVector(rnd), someVector(rnd)
		ab, bc := vector.Compare(a, b), vector.Compare(b, c)
		if vector.Compare(b, a) != -ab || (ab == 0) != (a == b) {
			t.Fatalf("%v and %v", a, b)
		}
		if ab <= 0 && bc <= 0 && vector.Compare(a, c) != min(ab, bc) {
			t.Fatalf("%v, %v and %v", a, b, c)
		}
	}
}

func TestMaxCost(t *testing.T) {
	if vector.MaxCost != 1<<24 {
		t.Error(vector.MaxCost)
	}
}

// P4.2
func TestFar(t *testing.T) {
	const most = vector.MaxCost
	cases := []struct {
		cost, more uint32
		want       uint32
		is         bool
	}{
		{5, 4, 9, true},
		{5, 1 << 24, 0, false},
		{0, 0, 0, false},
		{5, 0, 0, false},
		{0, 1, 1, true},
		{0, most - 1, most - 1, true},
		{0, most, most, true},
		{0, most + 1, 0, false},
		{1, most - 1, most, true},
		{1, most, 0, false},
		{most - 1, 1, most, true},
		{most - 1, 2, 0, false},
		{most, 0, 0, false},
		{most, 1, 0, false},
		{most + 1, 0, 0, false},
		{most + 1, 1, 0, false},
		{0, math.MaxUint32, 0, false},
		{1, math.MaxUint32, 0, false},
		{5, math.MaxUint32, 0, false},
		{most, math.MaxUint32, 0, false},
		{math.MaxUint32, 0, 0, false},
		{math.MaxUint32, 1, 0, false},
		{math.MaxUint32, 2, 0, false},
		{math.MaxUint32, 100, 0, false},
		{math.MaxUint32, math.MaxUint32, 0, false},
		{1 << 31, 1 << 31, 0, false},
	}
	for _, c := range cases {
		for _, v := range []vector.Vector{{}, {Root: 1, Bridge: 2, Port: 3}, {Root: math.MaxUint64, Bridge: math.MaxUint64, Port: math.MaxUint8}} {
			var want vector.Vector
			if c.is {
				want = v
				want.Cost = c.want
			}
			v.Cost = c.cost
			before := v
			if got, is := v.Far(c.more); got != want || is != c.is {
				t.Errorf("%v.Far(%d) = %v, %t; want %v, %t", v, c.more, got, is, want, c.is)
			}
			if v != before {
				t.Errorf("%v.Far(%d) changed it to %v", before, c.more, v)
			}
		}
	}
}

// P4.4: what is farther is greater, and just so much.
func TestFartherIsGreater(t *testing.T) {
	rnd := rand.New(rand.NewPCG(4, 2))
	far := 0
	for range 20000 {
		v := someVector(rnd)
		v.Cost = rnd.Uint32() >> (7 + rnd.IntN(25))
		more := rnd.Uint32() >> (7 + rnd.IntN(25))
		got, is := v.Far(more)
		if !is {
			continue
		}
		far++
		if vector.Compare(v, got) != -1 || got.Cost-v.Cost != more {
			t.Fatalf("%v.Far(%d) = %v", v, more, got)
		}
	}
	if far < 10000 {
		t.Errorf("just %d were farther", far)
	}
}

func checkLeast(t *testing.T, want vector.Path, is bool, l ...vector.Path) {
	t.Helper()
	if got, gotIs := vector.Least(l...); got != want || gotIs != is {
		t.Errorf("Least(%v) = %v, %t; want %v, %t", l, got, gotIs, want, is)
	}
}

// P4.3: none, one, the same twice, and what tells of two: their vectors, then the ports of one's own.
func TestLeast(t *testing.T) {
	checkLeast(t, vector.Path{}, false)
	checkLeast(t, vector.Path{}, false, []vector.Path{}...)
	checkLeast(t, vector.Path{}, true, vector.Path{})
	v := vector.Vector{Root: 5, Cost: 10, Bridge: 7, Port: 1}
	p := vector.Path{V: v, In: 3}
	checkLeast(t, p, true, p)
	checkLeast(t, p, true, p, p, p)
	for _, less := range []vector.Path{
		{V: v, In: 2},
		{V: v, In: 0},
		{V: vector.Vector{Root: 5, Cost: 10, Bridge: 7, Port: 0}, In: 9},
		{V: vector.Vector{Root: 5, Cost: 10, Bridge: 6, Port: 9}, In: 9},
		{V: vector.Vector{Root: 5, Cost: 9, Bridge: 9, Port: 9}, In: 9},
		{V: vector.Vector{Root: 4, Cost: 99, Bridge: 9, Port: 9}, In: 9},
	} {
		checkLeast(t, less, true, p, less)
		checkLeast(t, less, true, less, p)
		checkLeast(t, less, true, p, less, p, less)
	}
	checkLeast(t, vector.Path{V: v, In: 127}, true, vector.Path{V: v, In: 255}, vector.Path{V: v, In: 127}, vector.Path{V: v, In: 128})
}

// P4.3, P4.4: the least path is one of them, and none greater than any; the arguments stay as they were.
func TestLeastOfMany(t *testing.T) {
	rnd := rand.New(rand.NewPCG(4, 3))
	for range 5000 {
		l := somePaths(rnd, 1+rnd.IntN(12))
		before := slices.Clone(l)
		got, is := vector.Least(l...)
		if !is || !slices.Contains(l, got) {
			t.Fatalf("Least(%v) = %v, %t", l, got, is)
		}
		for _, p := range l {
			if pathKey(p) < pathKey(got) {
				t.Fatalf("Least(%v) = %v", l, got)
			}
		}
		if !slices.Equal(l, before) {
			t.Fatalf("Least(%v) changed them to %v", before, l)
		}
	}
}

func checkSort(t *testing.T, l, want []vector.Vector) {
	t.Helper()
	if got := vector.Sort(l); !slices.Equal(got, want) {
		t.Errorf("Sort(%v) = %v; want %v", l, got, want)
	}
}

// P4.3
func TestSort(t *testing.T) {
	a := vector.Vector{Root: 1, Cost: 9, Bridge: 9, Port: 9}
	b := vector.Vector{Root: 2, Cost: 0, Bridge: 9, Port: 9}
	c := vector.Vector{Root: 2, Cost: 1, Bridge: 0, Port: 9}
	d := vector.Vector{Root: 2, Cost: 1, Bridge: 1, Port: 0}
	e := vector.Vector{Root: 2, Cost: 1, Bridge: 1, Port: 1}
	sorted := []vector.Vector{a, b, c, d, e}
	checkSort(t, nil, nil)
	checkSort(t, []vector.Vector{}, nil)
	checkSort(t, []vector.Vector{a}, []vector.Vector{a})
	checkSort(t, []vector.Vector{{}}, []vector.Vector{{}})
	checkSort(t, []vector.Vector{b, a, b}, []vector.Vector{a, b, b})
	checkSort(t, sorted, sorted)
	checkSort(t, []vector.Vector{e, d, c, b, a}, sorted)
	checkSort(t, []vector.Vector{c, e, a, d, b}, sorted)
}

// P4.3, P4.4: all that come in come out, each as often, in the one order.
func TestSortMany(t *testing.T) {
	rnd := rand.New(rand.NewPCG(3, 4))
	shuffled := grid()
	rnd.Shuffle(len(shuffled), func(i, j int) { shuffled[i], shuffled[j] = shuffled[j], shuffled[i] })
	lists := [][]vector.Vector{shuffled}
	for n := range 300 {
		lists = append(lists, someVectors(rnd, n))
	}
	for _, l := range lists {
		checkSort(t, l, inOrder(l))
	}
}

// P4.3: what is handed in stays, with the room behind it, and what is handed out is new, spare room too.
func TestSortSharesNothing(t *testing.T) {
	rnd := rand.New(rand.NewPCG(4, 5))
	for n := range 20 {
		l := someVectors(rnd, n)
		before := slices.Clone(l[:cap(l)])
		want := inOrder(l)
		first, second := vector.Sort(l), vector.Sort(l)
		room := first[:cap(first)]
		for i := range room {
			room[i] = vector.Vector{Root: 99}
		}
		if !slices.Equal(l[:cap(l)], before) {
			t.Fatalf("%v became %v", before, l[:cap(l)])
		}
		if !slices.Equal(second, want) {
			t.Fatalf("Sort(%v) = %v behind a write to another answer", l, second)
		}
		checkSort(t, l, want)
	}
}
