package fdb_test

import (
	"cmp"
	"math/rand/v2"
	"slices"
	"testing"

	"viaduct/api"
	"viaduct/fdb"
	"viaduct/mac"
)

// none is what a place leads to that leads nowhere: no set of ports has that value.
const none = -1

// of is the address of a number below 256.
func of(n int) api.Mac { return api.Mac{2, 0, 0, 0, 0, byte(n)} }

// entry is a learnt one in VLAN 1.
func entry(n int, port uint8, age int) fdb.Entry {
	return fdb.Entry{Vid: 1, Mac: of(n), Port: port, Age: age}
}

// fill learns so many addresses, from that number on, in VLAN 1, at ports in turn.
func fill(b *fdb.Table, from, count int) {
	for n := from; n < from+count; n++ {
		b.Learn(1, of(n), uint8(n%api.MaxPorts))
	}
}

// ticks lets so many ticks go by.
func ticks(b *fdb.Table, count int) {
	for range count {
		b.Tick()
	}
}

// checkLook holds that the place leads to that set of ports, or to none.
func checkLook(t *testing.T, b *fdb.Table, vid uint16, m api.Mac, want int) {
	t.Helper()
	ports, is := b.Look(vid, m)
	if want == none && (ports != 0 || is) || want != none && (int(ports) != want || !is) {
		t.Fatalf("Look(%d, %x) = %08b, %t; want %d", vid, m, ports, is, want)
	}
}

func checkList(t *testing.T, b *fdb.Table, want ...fdb.Entry) {
	t.Helper()
	if got := b.List(); !slices.Equal(got, want) {
		t.Fatalf("List() = %v; want %v", got, want)
	}
}

func checkStatics(t *testing.T, b *fdb.Table, want int) {
	t.Helper()
	if got := b.Statics(); got != want {
		t.Fatalf("Statics() = %d; want %d", got, want)
	}
}

func checkFlush(t *testing.T, b *fdb.Table, ports uint8, want int) {
	t.Helper()
	if got := b.Flush(ports); got != want {
		t.Fatalf("Flush(%08b) = %d; want %d", ports, got, want)
	}
}

func checkSet(t *testing.T, b *fdb.Table, vid uint16, m api.Mac, ports uint8, err api.Errno) {
	t.Helper()
	if e := b.SetStatic(vid, m, ports); e != err {
		t.Fatalf("SetStatic(%d, %x, %08b) = %d; want %d", vid, m, ports, e, err)
	}
}

func checkDrop(t *testing.T, b *fdb.Table, vid uint16, m api.Mac, err api.Errno) {
	t.Helper()
	if e := b.DropStatic(vid, m); e != err {
		t.Fatalf("DropStatic(%d, %x) = %d; want %d", vid, m, e, err)
	}
}

// The chapter's example.
func TestExample(t *testing.T) {
	b := fdb.New()
	b.Learn(1, of(1), 2)
	b.Learn(1, of(1), 3)
	checkLook(t, b, 1, of(1), 8)
	checkSet(t, b, 1, of(1), 5, api.OK)
	checkLook(t, b, 1, of(1), 5)
	checkDrop(t, b, 1, of(1), api.OK)
	checkLook(t, b, 1, of(1), none)
}

// P8.1: at first there are no entries.
func TestNew(t *testing.T) {
	b := fdb.New()
	if b == nil {
		t.Fatal("New() is nil")
	}
	checkList(t, b)
	checkStatics(t, b, 0)
	checkFlush(t, b, 0xff, 0)
	b.Tick()
	for vid := range 1 << 16 {
		checkLook(t, b, uint16(vid), of(1), none)
		checkLook(t, b, uint16(vid), api.Mac{}, none)
	}
	checkDrop(t, b, 1, of(1), api.ErrNone)
}

// P8.1: nothing is learnt of a group's address, be it everybody's or whose it may.
func TestLearnGroup(t *testing.T) {
	b := fdb.New()
	for first := range 256 {
		m := api.Mac{byte(first), 0xff, 0, 1, 2, 3}
		b.Learn(1, m, 3)
		if first%2 == 1 {
			checkLook(t, b, 1, m, none)
			checkList(t, b)
			continue
		}
		checkLook(t, b, 1, m, 8)
		checkList(t, b, fdb.Entry{Vid: 1, Mac: m, Port: 3})
		checkFlush(t, b, 8, 1)
	}
	for _, m := range []api.Mac{mac.All(), mac.Own(), {1}} {
		b.Learn(1, m, 0)
		checkLook(t, b, 1, m, none)
	}
	checkList(t, b)
	b.Learn(1, api.Mac{}, 0)
	checkLook(t, b, 1, api.Mac{}, 1)
}

// P8.1: ports are those below 8.
func TestLearnPort(t *testing.T) {
	b := fdb.New()
	for port := range 256 {
		b.Learn(1, of(port), uint8(port))
		if port < 8 {
			checkLook(t, b, 1, of(port), 1<<port)
			continue
		}
		checkLook(t, b, 1, of(port), none)
	}
	if got := len(b.List()); got != 8 {
		t.Errorf("%d entries of 8 ports", got)
	}
}

// P8.1: VLANs are from 1 to 4094.
func TestLearnVlan(t *testing.T) {
	for n := range 1 << 16 {
		b, vid := fdb.New(), uint16(n)
		b.Learn(vid, of(1), 1)
		if n < 1 || n > 4094 {
			checkLook(t, b, vid, of(1), none)
			checkList(t, b)
			continue
		}
		checkLook(t, b, vid, of(1), 2)
		checkLook(t, b, vid-1, of(1), none)
		checkLook(t, b, vid+1, of(1), none)
		checkList(t, b, fdb.Entry{Vid: vid, Mac: of(1), Port: 1})
	}
}

// P8.1: what may not be learnt changes nothing of what was learnt ahead of it.
func TestLearnNothing(t *testing.T) {
	b := fdb.New()
	fill(b, 0, api.MaxFdb)
	b.Tick()
	want := b.List()
	b.Learn(0, of(0), 1)
	b.Learn(4095, of(0), 1)
	b.Learn(1, of(0), 8)
	b.Learn(1, of(0), 255)
	b.Learn(1, api.Mac{3, 0, 0, 0, 0, 0}, 1)
	b.Learn(1, mac.All(), 1)
	checkList(t, b, want...)
}

// P8.1: of a place with a static entry nothing is learnt, but of the places beside it.
func TestLearnStatic(t *testing.T) {
	b := fdb.New()
	checkSet(t, b, 1, of(1), 6, api.OK)
	b.Learn(1, of(1), 5)
	checkLook(t, b, 1, of(1), 6)
	checkList(t, b)
	b.Learn(2, of(1), 5)
	checkLook(t, b, 2, of(1), 32)
	b.Learn(1, of(2), 4)
	checkLook(t, b, 1, of(2), 16)
	checkLook(t, b, 1, of(1), 6)
	checkList(t, b, fdb.Entry{Vid: 2, Mac: of(1), Port: 5}, entry(2, 4, 0))
	checkDrop(t, b, 1, of(1), api.OK)
	checkLook(t, b, 1, of(1), none) // what was not learnt does not come back
	b.Learn(1, of(1), 5)
	checkLook(t, b, 1, of(1), 32)
}

// P8.1: a static entry without ports is one all the same.
func TestLearnStaticOfNoPorts(t *testing.T) {
	b := fdb.New()
	checkSet(t, b, 1, of(1), 0, api.OK)
	b.Learn(1, of(1), 5)
	checkLook(t, b, 1, of(1), 0)
	checkList(t, b)
	checkStatics(t, b, 1)
}

// P8.1: what is learnt again has the port, the age 0, and is the last one.
func TestLearnAgain(t *testing.T) {
	b := fdb.New()
	fill(b, 0, 3)
	ticks(b, 2)
	b.Learn(1, of(1), 7)
	checkLook(t, b, 1, of(1), 128)
	checkList(t, b, entry(0, 0, 2), entry(2, 2, 2), entry(1, 7, 0))
	b.Tick()
	b.Learn(1, of(0), 0) // at the same port too
	checkList(t, b, entry(2, 2, 3), entry(1, 7, 1), entry(0, 0, 0))
	b.Tick()
	b.Learn(1, of(0), 3) // the last one too
	checkList(t, b, entry(2, 2, 4), entry(1, 7, 2), entry(0, 3, 0))
}

// P8.1: a place is a VLAN and all bytes of an address.
func TestPlaces(t *testing.T) {
	b := fdb.New()
	first := api.Mac{2, 4, 6, 8, 10, 12}
	b.Learn(7, first, 0)
	want := []fdb.Entry{{Vid: 7, Mac: first, Port: 0}}
	for i := range first {
		m := first
		m[i] ^= 0x80
		checkLook(t, b, 7, m, none)
		port := uint8(1 + i)
		b.Learn(7, m, port)
		checkLook(t, b, 7, m, 1<<port)
		want = append(want, fdb.Entry{Vid: 7, Mac: m, Port: port})
	}
	b.Learn(8, first, 7)
	want = append(want, fdb.Entry{Vid: 8, Mac: first, Port: 7})
	checkLook(t, b, 7, first, 1)
	checkLook(t, b, 8, first, 128)
	checkList(t, b, want...)
}

// P8.1: 32 there are at most; then the one that was learnt first goes.
func TestLearnFull(t *testing.T) {
	b := fdb.New()
	fill(b, 0, 32)
	for n := range 32 {
		checkLook(t, b, 1, of(n), 1<<(n%8))
	}
	for n := 32; n < 100; n++ {
		fill(b, n, 1)
		checkLook(t, b, 1, of(n-32), none)
		checkLook(t, b, 1, of(n-31), 1<<((n-31)%8))
		checkLook(t, b, 1, of(n), 1<<(n%8))
		if got := len(b.List()); got != 32 {
			t.Fatalf("%d entries behind %d", got, n)
		}
	}
}

// P8.1: learnt first is who was not learnt again; and for what is there none has to go.
func TestLearnFullAgain(t *testing.T) {
	b := fdb.New()
	fill(b, 0, 32)
	b.Learn(1, of(0), 7)
	b.Learn(1, of(15), 6)
	if got := len(b.List()); got != 32 {
		t.Fatalf("%d entries", got)
	}
	checkLook(t, b, 1, of(1), 2)
	b.Learn(2, of(0), 1) // another VLAN: another place
	checkLook(t, b, 1, of(1), none)
	checkLook(t, b, 1, of(0), 128)
	fill(b, 32, 29) // those from 2 to 31 go, but for 15
	want := []fdb.Entry{entry(0, 7, 0), entry(15, 6, 0), {Vid: 2, Mac: of(0), Port: 1}}
	for n := 32; n < 61; n++ {
		want = append(want, entry(n, uint8(n%8), 0))
	}
	checkList(t, b, want...)
	fill(b, 61, 1)
	checkLook(t, b, 1, of(0), none)
	checkLook(t, b, 1, of(15), 64)
}

// P8.1: static entries take no room of learnt ones, and none of them goes.
func TestLearnBesideStatics(t *testing.T) {
	b := fdb.New()
	for n := range 16 {
		checkSet(t, b, 1, of(n), uint8(n), api.OK)
	}
	fill(b, 16, 32)
	for n := 16; n < 48; n++ {
		checkLook(t, b, 1, of(n), 1<<(n%8))
	}
	fill(b, 48, 100)
	checkStatics(t, b, 16)
	for n := range 16 {
		checkLook(t, b, 1, of(n), n)
	}
	if got := len(b.List()); got != 32 {
		t.Errorf("%d entries", got)
	}
}

// P8.2: a static entry leads to its ports, be they what they may.
func TestLookStatic(t *testing.T) {
	b := fdb.New()
	for ports := range 256 {
		checkSet(t, b, 1, of(1), uint8(ports), api.OK)
		checkLook(t, b, 1, of(1), ports)
		checkLook(t, b, 2, of(1), none)
		checkLook(t, b, 1, of(2), none)
		checkStatics(t, b, 1)
	}
}

// P8.2: to look changes nothing: neither an age nor who goes first.
func TestLookChangesNothing(t *testing.T) {
	b := fdb.New()
	fill(b, 0, 32)
	b.Tick()
	want := b.List()
	checkLook(t, b, 1, of(0), 1)
	checkLook(t, b, 1, of(99), none)
	checkList(t, b, want...)
	fill(b, 32, 1)
	checkLook(t, b, 1, of(0), none)
}

// P8.3: behind 40 ticks a learnt one goes, not sooner.
func TestTick(t *testing.T) {
	b := fdb.New()
	b.Learn(1, of(1), 4)
	for age := 1; age < 40; age++ {
		b.Tick()
		checkList(t, b, entry(1, 4, age))
		checkLook(t, b, 1, of(1), 16)
	}
	b.Tick()
	checkList(t, b)
	checkLook(t, b, 1, of(1), none)
	b.Tick()
	b.Learn(1, of(1), 5)
	checkList(t, b, entry(1, 5, 0))
}

// P8.3: just those go whose age it is, each in its turn; what was learnt again lasts as long again.
func TestTickEach(t *testing.T) {
	b := fdb.New()
	b.Learn(1, of(1), 1)
	ticks(b, 10)
	b.Learn(1, of(2), 2)
	b.Learn(1, of(3), 3)
	ticks(b, 29)
	b.Learn(1, of(2), 4)
	checkList(t, b, entry(1, 1, 39), entry(3, 3, 29), entry(2, 4, 0))
	b.Tick()
	checkList(t, b, entry(3, 3, 30), entry(2, 4, 1))
	ticks(b, 10)
	checkList(t, b, entry(2, 4, 11))
	ticks(b, 28)
	checkList(t, b, entry(2, 4, 39))
	b.Tick()
	checkList(t, b)
}

// P8.3: several of one age go at once.
func TestTickAll(t *testing.T) {
	b := fdb.New()
	fill(b, 0, 32)
	ticks(b, 39)
	if got := len(b.List()); got != 32 {
		t.Errorf("%d entries behind 39 ticks", got)
	}
	b.Tick()
	checkList(t, b)
}

// P8.3: what goes with its age leaves room; no other one has to go for the next.
func TestTickLeavesRoom(t *testing.T) {
	b := fdb.New()
	fill(b, 0, 8)
	b.Tick()
	fill(b, 8, 24)
	ticks(b, 39)
	fill(b, 32, 8)
	for n := range 8 {
		checkLook(t, b, 1, of(n), none)
	}
	for n := 8; n < 40; n++ {
		checkLook(t, b, 1, of(n), 1<<(n%8))
	}
}

// P8.3: the learnt entries of the ports of a set go, all others stay in order.
func TestFlush(t *testing.T) {
	for ports := range 256 {
		b := fdb.New()
		fill(b, 0, 11) // two of each of the ports 0, 1, 2, one of each other
		b.Learn(2, of(5), 5)
		all := b.List()
		stay := slices.DeleteFunc(b.List(), func(e fdb.Entry) bool { return ports&[]int{1, 2, 4, 8, 16, 32, 64, 128}[e.Port] != 0 })
		checkFlush(t, b, uint8(ports), len(all)-len(stay))
		checkList(t, b, stay...)
		for _, e := range all {
			if slices.Contains(stay, e) {
				checkLook(t, b, e.Vid, e.Mac, 1<<e.Port)
			} else {
				checkLook(t, b, e.Vid, e.Mac, none)
			}
		}
		checkFlush(t, b, uint8(ports), 0)
	}
}

// P8.3: no static entries are flushed, and none goes with its age.
func TestStaticsStay(t *testing.T) {
	b := fdb.New()
	checkSet(t, b, 1, of(1), 0xff, api.OK)
	checkSet(t, b, 4094, of(2), 1, api.OK)
	checkFlush(t, b, 0xff, 0)
	ticks(b, 200)
	checkLook(t, b, 1, of(1), 0xff)
	checkLook(t, b, 4094, of(2), 1)
	checkStatics(t, b, 2)
}

// P8.3: what was flushed at an old port was learnt at another one since: it stays.
func TestFlushMoved(t *testing.T) {
	b := fdb.New()
	b.Learn(1, of(1), 0)
	b.Learn(1, of(1), 1)
	checkFlush(t, b, 1, 0)
	checkLook(t, b, 1, of(1), 2)
	checkFlush(t, b, 2, 1)
	checkLook(t, b, 1, of(1), none)
}

// P8.4: VLANs are from 1 to 4094, for both calls.
func TestStaticVlan(t *testing.T) {
	b := fdb.New()
	for n := range 1 << 16 {
		vid := uint16(n)
		if n < 1 || n > 4094 {
			checkSet(t, b, vid, of(1), 3, api.ErrArg)
			checkDrop(t, b, vid, of(1), api.ErrArg)
			checkLook(t, b, vid, of(1), none)
			checkStatics(t, b, 0)
			continue
		}
		checkDrop(t, b, vid, of(1), api.ErrNone)
		checkSet(t, b, vid, of(1), 3, api.OK)
		checkLook(t, b, vid, of(1), 3)
		checkLook(t, b, vid+1, of(1), none)
		checkStatics(t, b, 1)
		checkDrop(t, b, vid, of(1), api.OK)
		checkLook(t, b, vid, of(1), none)
		checkStatics(t, b, 0)
	}
}

// P8.4: any address may have a static entry, a group's too.
func TestStaticAddress(t *testing.T) {
	b := fdb.New()
	for i, m := range []api.Mac{{}, {1}, mac.All(), mac.Own(), of(1), {0xff, 0, 0, 0, 0, 1}} {
		checkSet(t, b, 9, m, uint8(i+1), api.OK)
		checkLook(t, b, 9, m, i+1)
		checkStatics(t, b, i+1)
	}
	checkDrop(t, b, 9, mac.All(), api.OK)
	checkLook(t, b, 9, mac.All(), none)
	checkLook(t, b, 9, mac.Own(), 4)
}

// P8.4: a learnt entry of the place is gone, for good; those of other places stay.
func TestStaticForLearnt(t *testing.T) {
	b := fdb.New()
	fill(b, 0, 3)
	b.Learn(2, of(1), 7)
	checkSet(t, b, 1, of(1), 64, api.OK)
	checkLook(t, b, 1, of(1), 64)
	checkList(t, b, entry(0, 0, 0), entry(2, 2, 0), fdb.Entry{Vid: 2, Mac: of(1), Port: 7})
	checkDrop(t, b, 1, of(1), api.OK)
	checkLook(t, b, 1, of(1), none)
	checkList(t, b, entry(0, 0, 0), entry(2, 2, 0), fdb.Entry{Vid: 2, Mac: of(1), Port: 7})
}

// P8.4: 16 there are at most; of those that are there the ports may be set still.
func TestStaticFull(t *testing.T) {
	b := fdb.New()
	b.Learn(1, of(50), 5)
	for n := range 16 {
		checkSet(t, b, 1, of(n), 1, api.OK)
		checkStatics(t, b, n+1)
	}
	want := b.List()
	checkSet(t, b, 1, of(16), 1, api.ErrFull)
	checkSet(t, b, 2, of(0), 1, api.ErrFull) // another VLAN: another place
	checkSet(t, b, 1, of(50), 1, api.ErrFull)
	checkStatics(t, b, 16)
	checkLook(t, b, 1, of(16), none)
	checkLook(t, b, 2, of(0), none)
	checkLook(t, b, 1, of(50), 32) // the learnt one is there still
	checkList(t, b, want...)
	for n := range 16 {
		checkSet(t, b, 1, of(n), uint8(n*16), api.OK)
		checkLook(t, b, 1, of(n), n*16)
	}
	checkStatics(t, b, 16)
	checkDrop(t, b, 1, of(7), api.OK)
	checkStatics(t, b, 15)
	checkSet(t, b, 1, of(50), 3, api.OK)
	checkLook(t, b, 1, of(50), 3)
	checkList(t, b)
	checkSet(t, b, 1, of(7), 1, api.ErrFull)
}

// P8.4: of several errors the first one in the chapter's order.
func TestTwoErrors(t *testing.T) {
	b := fdb.New()
	for n := range 16 {
		checkSet(t, b, 1, of(n), 1, api.OK)
	}
	checkSet(t, b, 0, of(99), 1, api.ErrArg)
	checkSet(t, b, 4095, of(99), 1, api.ErrArg)
	checkSet(t, b, 4094, of(99), 1, api.ErrFull)
	checkDrop(t, b, 0, of(99), api.ErrArg)
	checkDrop(t, b, 4095, of(99), api.ErrArg)
	checkDrop(t, b, 4094, of(99), api.ErrNone)
	checkStatics(t, b, 16)
}

// P8.4: what is dropped is no more; of a learnt entry's place none can be dropped.
func TestDrop(t *testing.T) {
	b := fdb.New()
	b.Learn(1, of(1), 1)
	checkDrop(t, b, 1, of(1), api.ErrNone)
	checkLook(t, b, 1, of(1), 2)
	checkSet(t, b, 1, of(2), 0, api.OK)
	checkSet(t, b, 2, of(2), 7, api.OK)
	checkDrop(t, b, 1, of(2), api.OK)
	checkDrop(t, b, 1, of(2), api.ErrNone)
	checkLook(t, b, 1, of(2), none)
	checkLook(t, b, 2, of(2), 7)
	checkStatics(t, b, 1)
	b.Learn(1, of(2), 3)
	checkLook(t, b, 1, of(2), 8)
}

// P8.5: in the order in which they were learnt last; not by numbers, nor by ports.
func TestListOrder(t *testing.T) {
	rnd := rand.New(rand.NewPCG(8, 2))
	for range 200 {
		b := fdb.New()
		var want []fdb.Entry
		for _, n := range rnd.Perm(api.MaxFdb) {
			e := fdb.Entry{Vid: uint16(1 + rnd.IntN(api.MaxVid)), Mac: of(n), Port: uint8(rnd.IntN(8))}
			b.Learn(e.Vid, e.Mac, e.Port)
			want = append(want, e)
		}
		checkList(t, b, want...)
	}
}

// P8.5: what is answered is one's own, spare room too, whatever is done behind it.
func TestListIsNewMemory(t *testing.T) {
	b := fdb.New()
	fill(b, 0, 5)
	one, two := b.List(), b.List()
	room := one[:cap(one)]
	for i := range room {
		room[i] = fdb.Entry{Vid: 77}
	}
	_ = append(one, fdb.Entry{Vid: 78})
	want := []fdb.Entry{entry(0, 0, 0), entry(1, 1, 0), entry(2, 2, 0), entry(3, 3, 0), entry(4, 4, 0)}
	checkList(t, b, want...)
	b.Tick()
	b.Learn(1, of(0), 7)
	b.Flush(4)
	if !slices.Equal(two, want) {
		t.Error(two)
	}
	fill(b, 5, 5)
	empty := fdb.New()
	fill(empty, 0, 5)
	empty.Flush(0xff)
	list := empty.List()
	fill(empty, 0, 5)
	_ = append(list, fdb.Entry{Vid: 79})
	checkList(t, empty, want...)
}

// Calls on no database.
func TestNil(t *testing.T) {
	var b *fdb.Table
	b.Learn(1, of(1), 1)
	b.Learn(0, mac.All(), 255)
	b.Tick()
	checkLook(t, b, 1, of(1), none)
	checkFlush(t, b, 0xff, 0)
	checkSet(t, b, 1, of(1), 1, api.ErrNil)
	checkSet(t, b, 0, of(1), 1, api.ErrNil)
	checkDrop(t, b, 1, of(1), api.ErrNil)
	checkDrop(t, b, 0, of(1), api.ErrNil)
	checkList(t, b)
	checkStatics(t, b, 0)
}

// R1: a database that no New made ends every call too.
func TestMadeByHand(t *testing.T) {
	var b fdb.Table
	b.Tick()
	checkFlush(t, &b, 0xff, 0)
	checkLook(t, &b, 1, of(1), none)
	checkDrop(t, &b, 1, of(1), api.ErrNone)
	checkSet(t, &b, 1, of(1), 3, api.OK)
	b.Learn(1, of(2), 1)
	checkLook(t, &b, 1, of(1), 3)
	checkList(t, &b, entry(2, 1, 0))
}

// R2: databases know nothing of each other.
func TestTwoDatabases(t *testing.T) {
	a, b := fdb.New(), fdb.New()
	fill(a, 0, 4)
	checkSet(t, a, 1, of(9), 1, api.OK)
	checkList(t, b)
	checkLook(t, b, 1, of(9), none)
	b.Learn(1, of(9), 3)
	b.Tick()
	checkFlush(t, b, 0xff, 1)
	checkLook(t, a, 1, of(9), 1)
	checkList(t, a, entry(0, 0, 0), entry(1, 1, 0), entry(2, 2, 0), entry(3, 3, 0))
}

// place is a VLAN and an address.
type place struct {
	vid uint16
	m   api.Mac
}

// note is where, and when, a place was learnt last.
type note struct {
	port      uint8
	act, tick int
}

// book is a database beside notes of when what was learnt.
type book struct {
	b         *fdb.Table
	act, tick int // how many there were
	notes     map[place]note
	statics   map[place]uint8
}

// first is the place that was learnt first of all that last.
func (k *book) first() place {
	var first place
	act := k.act + 1
	for p, n := range k.notes {
		if n.act < act {
			first, act = p, n.act
		}
	}
	return first
}

func (k *book) learn(p place, port uint8) {
	k.b.Learn(p.vid, p.m, port)
	_, isStatic := k.statics[p]
	if p.m[0]%2 == 1 || port > 7 || p.vid < 1 || p.vid > 4094 || isStatic {
		return
	}
	if _, is := k.notes[p]; !is && len(k.notes) == 32 {
		delete(k.notes, k.first())
	}
	k.notes[p] = note{port, k.act, k.tick}
}

func (k *book) ticked() {
	k.b.Tick()
	k.tick++
	for p, n := range k.notes {
		if k.tick-n.tick == 40 {
			delete(k.notes, p)
		}
	}
}

func (k *book) flush(t *testing.T, ports uint8) {
	t.Helper()
	before := len(k.notes)
	for p, n := range k.notes {
		value := 1
		for range n.port {
			value *= 2
		}
		if int(ports)/value%2 == 1 {
			delete(k.notes, p)
		}
	}
	checkFlush(t, k.b, ports, before-len(k.notes))
}

func (k *book) set(t *testing.T, p place, ports uint8) {
	t.Helper()
	_, is := k.statics[p]
	switch {
	case p.vid < 1 || p.vid > 4094:
		checkSet(t, k.b, p.vid, p.m, ports, api.ErrArg)
	case !is && len(k.statics) == 16:
		checkSet(t, k.b, p.vid, p.m, ports, api.ErrFull)
	default:
		checkSet(t, k.b, p.vid, p.m, ports, api.OK)
		k.statics[p] = ports
		delete(k.notes, p)
	}
}

func (k *book) drop(t *testing.T, p place) {
	t.Helper()
	_, is := k.statics[p]
	switch {
	case p.vid < 1 || p.vid > 4094:
		checkDrop(t, k.b, p.vid, p.m, api.ErrArg)
	case !is:
		checkDrop(t, k.b, p.vid, p.m, api.ErrNone)
	default:
		checkDrop(t, k.b, p.vid, p.m, api.OK)
		delete(k.statics, p)
	}
}

// look holds that the place leads where the notes say.
func (k *book) look(t *testing.T, p place) {
	t.Helper()
	want := none
	if n, is := k.notes[p]; is {
		want = 1 << n.port
	}
	if ports, is := k.statics[p]; is {
		want = int(ports)
	}
	checkLook(t, k.b, p.vid, p.m, want)
}

// holds holds that the database has just what the notes have.
func (k *book) holds(t *testing.T) {
	t.Helper()
	var want []fdb.Entry
	for p, n := range k.notes {
		want = append(want, fdb.Entry{Vid: p.vid, Mac: p.m, Port: n.port, Age: k.tick - n.tick})
	}
	slices.SortFunc(want, func(x, y fdb.Entry) int {
		return cmp.Compare(k.notes[place{x.Vid, x.Mac}].act, k.notes[place{y.Vid, y.Mac}].act)
	})
	checkList(t, k.b, want...)
	checkStatics(t, k.b, len(k.statics))
	for p := range k.statics {
		k.look(t, p)
	}
	for p := range k.notes {
		k.look(t, p)
	}
}

// somePlace is one of few for the most part, so that many are there; or one at the edge.
func somePlace(rnd *rand.Rand) place {
	p := place{uint16(1 + rnd.IntN(3)), of(rnd.IntN(18))}
	switch rnd.IntN(24) {
	case 0:
		p.vid = []uint16{0, 4093, 4094, 4095, 4096, 65535}[rnd.IntN(6)]
	case 1:
		p.m[0] = byte(rnd.Uint32())
	}
	return p
}

// someAct does one of the acts; many ticks let entries go with their age, few let them be many.
func (k *book) someAct(t *testing.T, rnd *rand.Rand, often int) {
	t.Helper()
	k.act++
	p := somePlace(rnd)
	switch {
	case rnd.IntN(often) == 0:
		k.ticked()
	case rnd.IntN(10) == 0:
		k.set(t, p, uint8(rnd.Uint32()))
	case rnd.IntN(10) == 0:
		k.drop(t, p)
	case rnd.IntN(40) == 0:
		k.flush(t, uint8(rnd.Uint32()&rnd.Uint32()))
	case rnd.IntN(4) == 0:
		k.look(t, p)
	default:
		k.learn(p, uint8(rnd.IntN(9)))
	}
	k.holds(t)
}

// P8.1 to P8.6: behind any acts the database is what the chapter says, and every
// place leads where it was learnt last, if it leads anywhere.
func TestAnyActs(t *testing.T) {
	rnd := rand.New(rand.NewPCG(8, 1))
	for _, often := range []int{2, 3, 5, 20, 200} {
		for range 20 {
			k := book{b: fdb.New(), notes: map[place]note{}, statics: map[place]uint8{}}
			for range 600 {
				k.someAct(t, rnd, often)
			}
		}
	}
}

// P8.6: a static entry holds, whatever is learnt, flushed, or ticks, till it is dropped.
func TestStaticHolds(t *testing.T) {
	rnd := rand.New(rand.NewPCG(8, 3))
	b := fdb.New()
	held := place{5, of(1)}
	checkSet(t, b, held.vid, held.m, 0b1010, api.OK)
	for range 5000 {
		switch rnd.IntN(6) {
		case 0:
			b.Tick()
		case 1:
			b.Flush(uint8(rnd.Uint32()))
		case 2:
			b.Learn(held.vid, held.m, uint8(rnd.IntN(8)))
		case 3:
			p := somePlace(rnd)
			b.SetStatic(p.vid, p.m, uint8(rnd.Uint32()))
		default:
			p := somePlace(rnd)
			b.Learn(p.vid, p.m, uint8(rnd.IntN(8)))
		}
		checkLook(t, b, held.vid, held.m, 0b1010)
	}
	checkDrop(t, b, held.vid, held.m, api.OK)
	checkLook(t, b, held.vid, held.m, none)
	b.Learn(held.vid, held.m, 6)
	checkLook(t, b, held.vid, held.m, 64)
}

// P8.6: a place leads to the port at which it was learnt last, for less than 40 ticks.
func TestLastPortHolds(t *testing.T) {
	for wait := range 60 {
		b := fdb.New()
		b.Learn(3, of(1), 1)
		ticks(b, 30)
		b.Learn(3, of(1), 2)
		for n := range 31 { // with the place itself there are 32
			b.Learn(4, of(n), 0)
		}
		ticks(b, wait)
		want := 4
		if wait >= 40 {
			want = none
		}
		checkLook(t, b, 3, of(1), want)
		b.Learn(4, of(31), 0)
		if wait < 40 {
			want = none // it was the one that was learnt first of 32
		}
		checkLook(t, b, 3, of(1), want)
	}
}
