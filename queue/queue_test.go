package queue_test

import (
	"math"
	"math/rand/v2"
	"slices"
	"testing"

	"viaduct/api"
	"viaduct/queue"
)

// most is the greatest room that a queue may have.
const most = 1024

// of is a queue with such room, with these things in it.
func of[T any](t *testing.T, room int, things ...T) *queue.Queue[T] {
	t.Helper()
	q, e := queue.New[T](room)
	if e != api.OK || q == nil {
		t.Fatalf("New(%d): %v, %d", room, q, e)
	}
	for _, x := range things {
		checkPush(t, q, x, api.OK)
	}
	return q
}

func checkPush[T any](t *testing.T, q *queue.Queue[T], x T, err api.Errno) {
	t.Helper()
	if e := q.Push(x); e != err {
		t.Fatalf("Push(%v) = %d; want %d", x, e, err)
	}
}

func checkPop[T comparable](t *testing.T, q *queue.Queue[T], want T, err api.Errno) {
	t.Helper()
	if x, e := q.Pop(); x != want || e != err {
		t.Fatalf("Pop() = %v, %d; want %v, %d", x, e, want, err)
	}
}

// checkHolds holds that just these things are there, and that asking for it changes nothing.
func checkHolds[T comparable](t *testing.T, q *queue.Queue[T], room int, want ...T) {
	t.Helper()
	for range 2 {
		if all := q.All(); !slices.Equal(all, want) {
			t.Fatalf("All() = %v; want %v", all, want)
		}
		if q.Len() != len(want) || q.Room() != room-len(want) {
			t.Fatalf("Len() = %d, Room() = %d; want %d, %d", q.Len(), q.Room(), len(want), room-len(want))
		}
	}
}

// The chapter's example.
func TestExample(t *testing.T) {
	q := of[string](t, 2)
	checkPush(t, q, "a", api.OK)
	checkPush(t, q, "b", api.OK)
	checkPush(t, q, "c", api.ErrFull)
	checkPop(t, q, "a", api.OK)
	checkPush(t, q, "d", api.OK)
	checkHolds(t, q, 2, "b", "d")
}

// P6.1: room for 1 up to 1024, and no other.
func TestNew(t *testing.T) {
	for _, room := range []int{1, 2, 3, 63, 64, 65, most - 1, most} {
		checkHolds(t, of[int](t, room), room)
	}
	for _, room := range []int{math.MinInt, math.MinInt32, -most, -2, -1, 0, most + 1, most + 2, 1 << 16, 1<<16 + 1, math.MaxInt32, 1 << 32, 1<<32 + 1, math.MaxInt} {
		if q, e := queue.New[int](room); q != nil || e != api.ErrArg {
			t.Errorf("New(%d) = %v, %d", room, q, e)
		}
	}
}

// P6.1, P6.2: as many are there as there is room for; what is pushed beyond them is lost, and no other thing.
func TestFull(t *testing.T) {
	for _, room := range []int{1, 2, 64, most} {
		q := of[int](t, room)
		var want []int
		for i := range room {
			checkPush(t, q, i, api.OK)
			want = append(want, i)
		}
		checkHolds(t, q, room, want...)
		checkPush(t, q, -1, api.ErrFull)
		checkPush(t, q, -2, api.ErrFull)
		checkHolds(t, q, room, want...)
		for i := range room {
			checkPop(t, q, i, api.OK)
		}
		checkPop(t, q, 0, api.ErrNone)
	}
}

// P6.1: of none a zero thing comes, and the error, as often as one asks; then there is all the room still.
func TestNone(t *testing.T) {
	q := of[string](t, 2)
	checkPop(t, q, "", api.ErrNone)
	checkPop(t, q, "", api.ErrNone)
	checkHolds(t, q, 2)
	checkPush(t, q, "a", api.OK)
	checkPop(t, q, "a", api.OK)
	checkPop(t, q, "", api.ErrNone)
	checkPush(t, q, "b", api.OK)
	checkPush(t, q, "c", api.OK)
	checkPush(t, q, "d", api.ErrFull)
	checkHolds(t, q, 2, "b", "c")
}

// P6.1: a zero thing is a thing as others are.
func TestZeroThings(t *testing.T) {
	q := of(t, 3, "", "a", "")
	checkHolds(t, q, 3, "", "a", "")
	checkPush(t, q, "", api.ErrFull)
	checkPop(t, q, "", api.OK)
	checkPop(t, q, "a", api.OK)
	checkPop(t, q, "", api.OK)
	checkPop(t, q, "", api.ErrNone)
}

// P6.1: alike things are there as often as they were pushed.
func TestAlikeThings(t *testing.T) {
	q := of(t, 4, 7, 7, 8, 7)
	checkHolds(t, q, 4, 7, 7, 8, 7)
	checkPop(t, q, 7, api.OK)
	checkHolds(t, q, 4, 7, 8, 7)
}

// P6.2
func TestClear(t *testing.T) {
	q := of(t, 3, "a", "b", "c")
	checkPop(t, q, "a", api.OK)
	checkPush(t, q, "d", api.OK)
	for _, want := range []int{3, 0, 0} {
		if n := q.Clear(); n != want {
			t.Errorf("Clear() = %d; want %d", n, want)
		}
		checkHolds(t, q, 3)
	}
	checkPop(t, q, "", api.ErrNone)
	checkPush(t, q, "e", api.OK)
	checkPush(t, q, "f", api.OK)
	checkPush(t, q, "g", api.OK)
	checkPush(t, q, "h", api.ErrFull)
	checkHolds(t, q, 3, "e", "f", "g")
}

// P6.2: what is answered is one's own, spare room too: nothing that is written there is seen later.
func TestAllIsNewMemory(t *testing.T) {
	q := of(t, 4, "a", "b", "c")
	one, two := q.All(), q.All()
	for i := range one {
		one[i] = "x"
	}
	for i := range one[:cap(one)] {
		one[:cap(one)][i] = "y"
	}
	_ = append(one, "z")
	if !slices.Equal(two, []string{"a", "b", "c"}) {
		t.Error(two)
	}
	checkHolds(t, q, 4, "a", "b", "c")
	checkPop(t, q, "a", api.OK)
	checkPush(t, q, "d", api.OK)
	if !slices.Equal(two, []string{"a", "b", "c"}) {
		t.Error(two)
	}
	checkHolds(t, q, 4, "b", "c", "d")
}

// P6.1, P6.2: calls on no queue.
func TestNil(t *testing.T) {
	var q *queue.Queue[string]
	checkPush(t, q, "a", api.ErrNil)
	checkPop(t, q, "", api.ErrNil)
	if all := q.All(); len(all) != 0 {
		t.Error(all)
	}
	if q.Clear() != 0 || q.Len() != 0 || q.Room() != 0 {
		t.Error(q.Clear(), q.Len(), q.Room())
	}
}

// R1: even a queue that no New made ends every call: there is no room in it.
func TestMadeByHand(t *testing.T) {
	var q queue.Queue[int]
	checkPush(t, &q, 1, api.ErrFull)
	checkPop(t, &q, 0, api.ErrNone)
	checkHolds(t, &q, 0)
	if n := q.Clear(); n != 0 {
		t.Error(n)
	}
}

// R2: queues know nothing of each other.
func TestTwoQueues(t *testing.T) {
	a, b := of(t, 2, 1, 2), of(t, 3, 3)
	checkPush(t, a, 9, api.ErrFull)
	checkPush(t, b, 4, api.OK)
	checkPop(t, a, 1, api.OK)
	if n := b.Clear(); n != 2 {
		t.Error(n)
	}
	checkHolds(t, a, 2, 2)
	checkHolds(t, b, 3)
}

// P6.1: of whatever type things are.
func TestTypes(t *testing.T) {
	checkType(t, uint8(1), uint8(2))
	checkType(t, [2]int{1, 2}, [2]int{2, 1})
	checkType(t, api.Frame{Vid: 1, Data: "a"}, api.Frame{Tagged: true})
	checkType(t, api.ErrFull, api.ErrNone)
	checkType(t, true, false)
	checkType(t, 0.5, -1.5)
	checkType(t, struct{}{}, struct{}{})
	checkType(t, [60000]byte{1}, [60000]byte{59999: 2})
	checkType[any](t, 1, nil)
	checkType(t, new(int), nil)
	checkType(t, make(chan int), nil)
	checkType(t, of[int](t, 1), of[int](t, 1))
}

// checkType holds that things of the type go through a queue as they are.
func checkType[T comparable](t *testing.T, a, b T) {
	t.Helper()
	var none T
	q := of(t, 2, a, b)
	checkPush(t, q, b, api.ErrFull)
	checkHolds(t, q, 2, a, b)
	checkPop(t, q, a, api.OK)
	checkPush(t, q, a, api.OK)
	checkPop(t, q, b, api.OK)
	checkPop(t, q, a, api.OK)
	checkPop(t, q, none, api.ErrNone)
}

// Things that can't be held against each other go through a queue too.
func TestListsAndFunctions(t *testing.T) {
	lists := of(t, 2, []int{1, 2}, nil)
	if l, e := lists.Pop(); e != api.OK || !slices.Equal(l, []int{1, 2}) {
		t.Error(l, e)
	}
	if l, e := lists.Pop(); e != api.OK || l != nil {
		t.Error(l, e)
	}
	calls := of(t, 1, func() int { return 7 })
	if all := calls.All(); len(all) != 1 || all[0]() != 7 {
		t.Error(len(all))
	}
	if f, e := calls.Pop(); e != api.OK || f() != 7 {
		t.Error(e)
	}
	if f, e := calls.Pop(); e != api.ErrNone || f != nil {
		t.Error(e)
	}
}

// line is a queue beside a list that does as the chapter says.
type line struct {
	q    *queue.Queue[int]
	room int
	want []int
	next int // each thing that is pushed is another one
}

func (l *line) push(t *testing.T) {
	t.Helper()
	l.next++
	if len(l.want) == l.room {
		checkPush(t, l.q, l.next, api.ErrFull)
		return
	}
	checkPush(t, l.q, l.next, api.OK)
	l.want = append(l.want, l.next)
}

func (l *line) pop(t *testing.T) {
	t.Helper()
	if len(l.want) == 0 {
		checkPop(t, l.q, 0, api.ErrNone)
		return
	}
	checkPop(t, l.q, l.want[0], api.OK)
	l.want = l.want[1:]
}

func (l *line) clear(t *testing.T) {
	t.Helper()
	if n := l.q.Clear(); n != len(l.want) {
		t.Fatalf("Clear() = %d; want %d", n, len(l.want))
	}
	l.want = nil
}

// act does one of the acts, the number tells which.
func (l *line) act(t *testing.T, n int) {
	t.Helper()
	switch {
	case n%32 == 31:
		l.clear(t)
	case n%2 == 0:
		l.push(t)
	default:
		l.pop(t)
	}
	checkHolds(t, l.q, l.room, l.want...)
}

// P6.3: behind any acts just what was pushed with OK, and did not come out, and was not cleared, is there, in its order.
func TestAnyActs(t *testing.T) {
	rnd := rand.New(rand.NewPCG(6, 3))
	for range 300 {
		room := 1 + rnd.IntN(10)
		l := line{q: of[int](t, room), room: room}
		for range 200 {
			l.act(t, rnd.IntN(64))
		}
	}
}

// P6.3: in their order, however often the room was filled and left.
func TestLongRow(t *testing.T) {
	for _, room := range []int{1, 3, 64, most} {
		l := line{q: of[int](t, room), room: room}
		for range room / 2 {
			l.push(t)
		}
		for range 3*room + 1 {
			l.push(t)
			l.pop(t)
		}
		checkHolds(t, l.q, room, l.want...)
	}
}

// FuzzActs holds the same of whatever acts.
func FuzzActs(f *testing.F) {
	f.Add(2, []byte{0, 0, 0, 1, 0, 31, 1})
	f.Add(0, []byte{0, 1})
	f.Add(most+1, []byte{})
	f.Fuzz(func(t *testing.T, room int, acts []byte) {
		q, e := queue.New[int](room)
		if room < 1 || room > most {
			if q != nil || e != api.ErrArg {
				t.Fatalf("New(%d) = %v, %d", room, q, e)
			}
			checkPush(t, q, 1, api.ErrNil)
			return
		}
		l := line{q: q, room: room}
		for _, n := range acts {
			l.act(t, int(n))
		}
	})
}
