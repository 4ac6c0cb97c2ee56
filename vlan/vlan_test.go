package vlan_test

import (
	"fmt"
	"math"
	"math/rand/v2"
	"slices"
	"strings"
	"testing"

	"viaduct/api"
	"viaduct/frame"
	"viaduct/vlan"
)

// to and from are addresses, x is a frame without a tag.
var (
	to   = api.Mac{2, 0, 0, 0, 0, 2}
	from = api.Mac{2, 0, 0, 0, 0, 1}
	x    = api.Frame{Dst: to, Src: from, Type: 0x0800, Data: "x"}
)

// tagged is the frame with such a tag.
func tagged(f api.Frame, pri uint8, vid uint16) api.Frame {
	f.Tagged, f.Pri, f.Vid = true, pri, vid
	return f
}

// bare is the frame without its tag.
func bare(f api.Frame) api.Frame {
	f.Tagged, f.Pri, f.Vid = false, 0, 0
	return f
}

// filled is a frame without a tag, with so many bytes.
func filled(size int) api.Frame {
	f := x
	f.Data = strings.Repeat("d", size-14)
	return f
}

// brief tells a frame without the whole of its data.
func brief(f api.Frame) string {
	data := f.Data
	f.Data = ""
	return fmt.Sprintf("%+v, data %x (%d bytes)", f, data[:min(len(data), 24)], len(data))
}

// of is a table of so many ports.
func of(t *testing.T, ports int) *vlan.Table {
	t.Helper()
	b, e := vlan.New(ports)
	if e != api.OK || b == nil {
		t.Fatalf("New(%d) = %v, %d", ports, b, e)
	}
	return b
}

// with is a table of eight ports with one VLAN.
func with(t *testing.T, vid uint16, members, untagged uint8) *vlan.Table {
	t.Helper()
	b := of(t, api.MaxPorts)
	checkSet(t, b, vid, members, untagged, api.OK)
	return b
}

func checkSet(t *testing.T, b *vlan.Table, vid uint16, members, untagged uint8, err api.Errno) {
	t.Helper()
	if e := b.Set(vid, members, untagged); e != err {
		t.Fatalf("Set(%d, %08b, %08b) = %d; want %d", vid, members, untagged, e, err)
	}
}

func checkDrop(t *testing.T, b *vlan.Table, vid uint16, err api.Errno) {
	t.Helper()
	if e := b.Drop(vid); e != err {
		t.Fatalf("Drop(%d) = %d; want %d", vid, e, err)
	}
}

func checkSetOwn(t *testing.T, b *vlan.Table, port uint8, vid uint16, err api.Errno) {
	t.Helper()
	if e := b.SetOwn(port, vid); e != err {
		t.Fatalf("SetOwn(%d, %d) = %d; want %d", port, vid, e, err)
	}
}

func checkMembers(t *testing.T, b *vlan.Table, vid uint16, want uint8) {
	t.Helper()
	if got := b.Members(vid); got != want {
		t.Fatalf("Members(%d) = %08b; want %08b", vid, got, want)
	}
}

func checkVlans(t *testing.T, b *vlan.Table, want ...uint16) {
	t.Helper()
	if got := b.Vlans(); !slices.Equal(got, want) {
		t.Fatalf("Vlans() = %v; want %v", got, want)
	}
}

// checkIn holds that the frame is of that VLAN, or, 0, of none.
func checkIn(t *testing.T, b *vlan.Table, port uint8, f api.Frame, want uint16) {
	t.Helper()
	if vid, is := b.In(port, f); vid != want || is != (want != 0) {
		t.Fatalf("In(%d, %s) = %d, %t; want %d", port, brief(f), vid, is, want)
	}
}

func checkOut(t *testing.T, b *vlan.Table, port uint8, vid uint16, f, want api.Frame) {
	t.Helper()
	if got, is := b.Out(port, vid, f); got != want || !is {
		t.Fatalf("Out(%d, %d, %s) = %s, %t; want %s", port, vid, brief(f), brief(got), is, brief(want))
	}
}

func checkOutNone(t *testing.T, b *vlan.Table, port uint8, vid uint16, f api.Frame) {
	t.Helper()
	if got, is := b.Out(port, vid, f); got != (api.Frame{}) || is {
		t.Fatalf("Out(%d, %d, %s) = %s, %t; want none", port, vid, brief(f), brief(got), is)
	}
}

// The chapter's example.
func TestExample(t *testing.T) {
	b := of(t, 4)
	checkSet(t, b, 2, 0b0111, 0b0010, api.OK)
	checkSetOwn(t, b, 1, 2, api.OK)
	checkIn(t, b, 1, x, 2)
	checkIn(t, b, 0, tagged(x, 0, 2), 2)
	checkIn(t, b, 3, tagged(x, 0, 2), 0)
	checkIn(t, b, 0, x, 0)
	checkOut(t, b, 1, 2, x, x)
	checkOut(t, b, 0, 2, x, tagged(x, 0, 2))
	checkOutNone(t, b, 3, 2, x)
}

// P7.1: a table of 1 to 8 ports, without VLANs and own ones; none of other numbers of ports.
func TestNew(t *testing.T) {
	for ports := 1; ports <= api.MaxPorts; ports++ {
		b := of(t, ports)
		checkVlans(t, b)
		for vid := range 1 << 16 {
			checkMembers(t, b, uint16(vid), 0)
		}
		for port := range 256 {
			checkIn(t, b, uint8(port), x, 0)
			checkIn(t, b, uint8(port), tagged(x, 0, 1), 0)
			checkOutNone(t, b, uint8(port), 1, x)
		}
	}
	for _, ports := range []int{math.MinInt, math.MinInt32, -256, -8, -1, 0, api.MaxPorts + 1, 10, 16, 256, 257, 264, 1<<32 + 1, math.MaxInt} {
		if b, e := vlan.New(ports); b != nil || e != api.ErrArg {
			t.Errorf("New(%d) = %v, %d", ports, b, e)
		}
	}
}

// P7.1: no port has an own VLAN from the start, be there what VLANs there may.
func TestNoOwnFromTheStart(t *testing.T) {
	b := with(t, 1, 0xff, 0xff)
	for port := range uint8(api.MaxPorts) {
		checkIn(t, b, port, x, 0)
		checkIn(t, b, port, tagged(x, 0, 0), 0)
		checkIn(t, b, port, tagged(x, 0, 1), 1)
	}
}

// P7.1: just the ports that there are can be members, and just members untagged.
func TestSetPorts(t *testing.T) {
	for ports := 1; ports <= api.MaxPorts; ports++ {
		all := 1<<ports - 1
		b := of(t, ports)
		for members := range 256 {
			for untagged := range 256 {
				before := b.Members(7)
				if members|all != all || untagged|members != members {
					checkSet(t, b, 7, uint8(members), uint8(untagged), api.ErrArg)
					checkMembers(t, b, 7, before)
					continue
				}
				checkSet(t, b, 7, uint8(members), uint8(untagged), api.OK)
				checkMembers(t, b, 7, uint8(members))
			}
		}
		checkVlans(t, b, 7)
	}
}

// P7.1, P7.2: VLANs are from 1 to 4094.
func TestNumbers(t *testing.T) {
	b := of(t, 8)
	for n := range 1 << 16 {
		vid := uint16(n)
		if n < 1 || n > 4094 {
			checkSet(t, b, vid, 1, 0, api.ErrArg)
			checkDrop(t, b, vid, api.ErrArg)
			checkVlans(t, b)
			continue
		}
		checkDrop(t, b, vid, api.ErrNone)
		checkSet(t, b, vid, 5, 4, api.OK)
		checkVlans(t, b, vid)
		checkMembers(t, b, vid, 5)
		checkMembers(t, b, vid+1, 0)
		checkDrop(t, b, vid, api.OK)
		checkMembers(t, b, vid, 0)
		checkVlans(t, b)
	}
}

// P7.1: what a VLAN had is gone when it is set again.
func TestSetAgain(t *testing.T) {
	b := with(t, 3, 0b0111, 0b0101)
	checkOut(t, b, 0, 3, x, x)
	checkSet(t, b, 3, 0b1011, 0b1000, api.OK)
	checkMembers(t, b, 3, 0b1011)
	checkOut(t, b, 0, 3, x, tagged(x, 0, 3))
	checkOut(t, b, 1, 3, x, tagged(x, 0, 3))
	checkOutNone(t, b, 2, 3, x)
	checkOut(t, b, 3, 3, x, x)
	checkSet(t, b, 3, 0, 0, api.OK)
	checkVlans(t, b, 3) // without members it is there still
	checkMembers(t, b, 3, 0)
	checkOutNone(t, b, 0, 3, x)
	checkIn(t, b, 0, tagged(x, 0, 3), 0)
}

// P7.1: there are eight at most; those that are there can be set and dropped still.
func TestFull(t *testing.T) {
	b := of(t, 2)
	for vid := uint16(8); vid > 0; vid-- {
		checkSet(t, b, vid*100, 1, 0, api.OK)
	}
	full := []uint16{100, 200, 300, 400, 500, 600, 700, 800}
	checkVlans(t, b, full...)
	for _, vid := range []uint16{1, 99, 101, 801, 4094} {
		checkSet(t, b, vid, 1, 0, api.ErrFull)
		checkMembers(t, b, vid, 0)
		checkDrop(t, b, vid, api.ErrNone)
	}
	checkVlans(t, b, full...)
	for _, vid := range full {
		checkSet(t, b, vid, 3, 1, api.OK)
		checkMembers(t, b, vid, 3)
	}
	checkDrop(t, b, 400, api.OK)
	checkSet(t, b, 1, 2, 2, api.OK)
	checkSet(t, b, 400, 1, 0, api.ErrFull)
	checkVlans(t, b, 1, 100, 200, 300, 500, 600, 700, 800)
}

// P7.1: of several errors the first one in the chapter's order.
func TestTwoErrors(t *testing.T) {
	b := of(t, 3)
	for vid := range uint16(8) {
		checkSet(t, b, vid+1, 1, 0, api.OK)
	}
	checkSet(t, b, 0, 1, 0, api.ErrArg)
	checkSet(t, b, 4095, 1, 0, api.ErrArg)
	checkSet(t, b, 9, 8, 0, api.ErrArg)
	checkSet(t, b, 9, 1, 2, api.ErrArg)
	checkSet(t, b, 9, 8, 8, api.ErrArg)
	checkSet(t, b, 9, 1, 0, api.ErrFull)
	checkDrop(t, b, 0, api.ErrArg)
	checkDrop(t, b, 9, api.ErrNone)
	checkSetOwn(t, b, 3, 4095, api.ErrArg)
	checkVlans(t, b, 1, 2, 3, 4, 5, 6, 7, 8)
}

// P7.1: a VLAN that is dropped is none, and those beside it stay.
func TestDrop(t *testing.T) {
	b := with(t, 2, 3, 1)
	checkSet(t, b, 3, 6, 2, api.OK)
	checkDrop(t, b, 2, api.OK)
	checkVlans(t, b, 3)
	checkMembers(t, b, 2, 0)
	checkMembers(t, b, 3, 6)
	checkIn(t, b, 0, tagged(x, 0, 2), 0)
	checkOutNone(t, b, 0, 2, x)
	checkOut(t, b, 1, 3, x, x)
	checkOut(t, b, 2, 3, x, tagged(x, 0, 3))
	checkDrop(t, b, 2, api.ErrNone)
	checkDrop(t, b, 3, api.OK)
	checkVlans(t, b)
	checkDrop(t, b, 3, api.ErrNone)
}

// P7.1: the own VLAN of a port that there is: any, or none.
func TestSetOwn(t *testing.T) {
	for ports := 1; ports <= api.MaxPorts; ports++ {
		b := of(t, ports)
		for port := range 256 {
			want := api.OK
			if port >= ports {
				want = api.ErrArg
			}
			for _, vid := range []uint16{0, 1, 2, 4093, 4094} {
				checkSetOwn(t, b, uint8(port), vid, want)
			}
			for _, vid := range []uint16{4095, 4096, 4097, 8192, math.MaxUint16} {
				checkSetOwn(t, b, uint8(port), vid, api.ErrArg)
			}
		}
	}
}

// P7.1: an own VLAN is the one port's, and lasts till another one is set.
func TestOwnLasts(t *testing.T) {
	b := of(t, 3)
	checkSet(t, b, 5, 7, 0, api.OK)
	checkSet(t, b, 4094, 7, 0, api.OK)
	checkSetOwn(t, b, 0, 5, api.OK)
	checkSetOwn(t, b, 1, 4094, api.OK)
	checkIn(t, b, 0, x, 5)
	checkIn(t, b, 1, x, 4094)
	checkIn(t, b, 2, x, 0)
	checkSetOwn(t, b, 0, 4095, api.ErrArg) // changes nothing
	checkIn(t, b, 0, x, 5)
	checkSetOwn(t, b, 0, 4094, api.OK)
	checkIn(t, b, 0, x, 4094)
	checkSetOwn(t, b, 1, 0, api.OK)
	checkIn(t, b, 1, x, 0)
	checkIn(t, b, 0, x, 4094)
}

// P7.1: a port's own VLAN need not be there; it is a frame's as soon, and as long, as it is.
func TestOwnOfNoVlan(t *testing.T) {
	b := of(t, 2)
	checkSetOwn(t, b, 1, 6, api.OK)
	checkVlans(t, b)
	checkIn(t, b, 1, x, 0)
	checkSet(t, b, 6, 1, 0, api.OK)
	checkIn(t, b, 1, x, 0) // the port is no member
	checkSet(t, b, 6, 2, 0, api.OK)
	checkIn(t, b, 1, x, 6)
	checkDrop(t, b, 6, api.OK)
	checkIn(t, b, 1, x, 0)
	checkSet(t, b, 6, 3, 0, api.OK)
	checkIn(t, b, 1, x, 6)
}

// P7.2: rising, however they were set.
func TestVlansRise(t *testing.T) {
	rnd := rand.New(rand.NewPCG(7, 2))
	for range 500 {
		b := of(t, 1)
		var want []uint16
		for range rnd.IntN(api.MaxVlans + 1) {
			vid := uint16(1 + rnd.IntN(api.MaxVid))
			checkSet(t, b, vid, 1, 0, api.OK)
			want = append(want, vid)
		}
		slices.Sort(want)
		checkVlans(t, b, slices.Compact(want)...)
	}
}

// P7.2: what is answered is one's own, spare room too.
func TestVlansIsNewMemory(t *testing.T) {
	b := with(t, 2, 1, 0)
	checkSet(t, b, 9, 1, 0, api.OK)
	checkSet(t, b, 4, 1, 0, api.OK)
	one, two := b.Vlans(), b.Vlans()
	for i := range one[:cap(one)] {
		one[:cap(one)][i] = 77
	}
	_ = append(one, 78)
	if !slices.Equal(two, []uint16{2, 4, 9}) {
		t.Error(two)
	}
	checkVlans(t, b, 2, 4, 9)
}

// P7.3: a tag tells the VLAN, if it is from 1 to 4094; of VLAN 0 the port; else nothing does.
func TestInTags(t *testing.T) {
	b := with(t, 1, 0xff, 0)
	for _, vid := range []uint16{2, 3, 4093, 4094} {
		checkSet(t, b, vid, 0xff, 0, api.OK)
	}
	checkSetOwn(t, b, 0, 3, api.OK)
	for n := range 1 << 16 {
		f := tagged(x, 5, uint16(n))
		own, told := uint16(0), uint16(0)
		switch n {
		case 0:
			own = 3
		case 1, 2, 3, 4093, 4094:
			own, told = uint16(n), uint16(n)
		}
		checkIn(t, b, 0, f, own)
		checkIn(t, b, 1, f, told)
	}
}

// P7.3: of a VLAN in which the port is no member there is none, nor of ports that there are not.
func TestInMembers(t *testing.T) {
	for members := range 256 {
		b := with(t, 9, uint8(members), 0)
		for port := range uint8(api.MaxPorts) {
			checkSetOwn(t, b, port, 9, api.OK)
		}
		for port := range 256 {
			want := uint16(0)
			if port < api.MaxPorts && members&(1<<port) != 0 {
				want = 9
			}
			checkIn(t, b, uint8(port), x, want)
			checkIn(t, b, uint8(port), tagged(x, 0, 9), want)
			checkIn(t, b, uint8(port), tagged(x, 7, 0), want)
			checkIn(t, b, uint8(port), tagged(x, 0, 8), 0)
		}
	}
}

// P7.3: a tag tells more than the port, even if the port is no member of what it tells.
func TestInTagAheadOfOwn(t *testing.T) {
	b := with(t, 1, 1, 1)
	checkSet(t, b, 2, 2, 0, api.OK)
	checkSetOwn(t, b, 0, 1, api.OK)
	checkIn(t, b, 0, x, 1)
	checkIn(t, b, 0, tagged(x, 0, 1), 1)
	checkIn(t, b, 0, tagged(x, 0, 2), 0)
	checkIn(t, b, 0, tagged(x, 0, 4095), 0)
}

// P7.3: it is the same whether members are untagged; and nothing else of a frame tells.
func TestInOfWhateverElse(t *testing.T) {
	b := with(t, 1, 3, 1)
	checkSetOwn(t, b, 0, 1, api.OK)
	checkSetOwn(t, b, 1, 1, api.OK)
	frames := []api.Frame{{}, x, {Type: frame.TagType}, {Data: strings.Repeat("d", 4000)}, {Dst: api.Mac{0x01, 0x80, 0xc2}}}
	for _, f := range frames {
		for port := range uint8(2) {
			checkIn(t, b, port, f, 1)
			checkIn(t, b, port, tagged(f, 7, 0), 1)
			checkIn(t, b, port, tagged(f, 255, 1), 1)
			checkIn(t, b, port, tagged(f, 0, 2), 0)
		}
	}
	checkIn(t, b, 0, api.Frame{Vid: 2, Pri: 3}, 1) // without a tag no number counts
	checkIn(t, b, 0, api.Frame{Vid: 4095}, 1)
	checkIn(t, b, 2, api.Frame{Vid: 1}, 0)
}

// P7.4: without a tag by untagged ports, with one by the others that are members, by no other one.
func TestOutPorts(t *testing.T) {
	for members := range 256 {
		for _, untagged := range []int{0, members, members & 0x55, members & 0x0f} {
			b := with(t, 4094, uint8(members), uint8(untagged))
			for port := range 256 {
				f := tagged(x, uint8(port%8), 5)
				switch {
				case port >= api.MaxPorts || members&(1<<port) == 0:
					checkOutNone(t, b, uint8(port), 4094, f)
				case untagged&(1<<port) != 0:
					checkOut(t, b, uint8(port), 4094, f, x)
				default:
					checkOut(t, b, uint8(port), 4094, f, tagged(x, uint8(port%8), 4094))
				}
				checkOutNone(t, b, uint8(port), 4093, f)
			}
		}
	}
}

// P7.4: the priority stays with a tag; without one there is none.
func TestOutPriorities(t *testing.T) {
	b := with(t, 6, 3, 2)
	for pri := range uint8(8) {
		for _, vid := range []uint16{0, 1, 6, 4095} {
			checkOut(t, b, 0, 6, tagged(x, pri, vid), tagged(x, pri, 6))
			checkOut(t, b, 1, 6, tagged(x, pri, vid), x)
		}
	}
	checkOut(t, b, 0, 6, x, tagged(x, 0, 6))
}

// P7.4: numbers that are no VLAN's.
func TestOutOfNoVlan(t *testing.T) {
	b := with(t, 1, 0xff, 1)
	checkSetOwn(t, b, 0, 1, api.OK)
	for _, vid := range []uint16{0, 2, 4094, 4095, 4096, 4097, 8193, math.MaxUint16} {
		checkOutNone(t, b, 0, vid, x)
		checkOutNone(t, b, 1, vid, tagged(x, 0, 1))
	}
}

// P7.4: a frame that may not be, as it would go out, does not; whatever it was as it came in.
func TestOutMayBe(t *testing.T) {
	b := with(t, 6, 3, 2) // by port 0 with a tag, by port 1 without
	tag := x
	tag.Type = frame.TagType
	for _, f := range []api.Frame{tag, tagged(tag, 1, 6)} {
		checkOut(t, b, 0, 6, f, tagged(tag, f.Pri, 6))
		checkOutNone(t, b, 1, 6, f)
	}
	for _, pri := range []uint8{8, 9, 16, 128, 255} {
		checkOutNone(t, b, 0, 6, tagged(x, pri, 6))
		checkOut(t, b, 1, 6, tagged(x, pri, 6), x)
	}
	for _, vid := range []uint16{4095, 4096, math.MaxUint16} {
		checkOut(t, b, 0, 6, tagged(x, 1, vid), tagged(x, 1, 6))
		checkOut(t, b, 1, 6, tagged(x, 1, vid), x)
	}
	odd := x
	odd.Pri, odd.Vid = 3, 9 // of no tag
	checkOut(t, b, 0, 6, odd, tagged(x, 3, 6))
	checkOut(t, b, 1, 6, odd, x)
}

// P7.4: a tag counts, when it is told whether there are too many bytes.
func TestOutTooLong(t *testing.T) {
	b := with(t, 6, 3, 2)
	for size := api.MaxFrame - 6; size <= api.MaxFrame+6; size++ {
		f := filled(size)
		for _, g := range []api.Frame{f, tagged(f, 0, 6)} {
			if size+4 > api.MaxFrame {
				checkOutNone(t, b, 0, 6, g)
			} else {
				checkOut(t, b, 0, 6, g, tagged(f, 0, 6))
			}
			if size > api.MaxFrame {
				checkOutNone(t, b, 1, 6, g)
			} else {
				checkOut(t, b, 1, 6, g, f)
			}
		}
	}
	checkOutNone(t, b, 0, 6, filled(1<<17))
	checkOutNone(t, b, 1, 6, filled(1<<17))
}

// P7.5: what goes out is of the VLAN again where it comes in, and is what it was.
func TestOutThenIn(t *testing.T) {
	rnd := rand.New(rand.NewPCG(7, 5))
	went := map[bool]int{}
	for range 20000 {
		vid := uint16(1 + rnd.IntN(api.MaxVid))
		members := uint8(rnd.Uint32())
		untagged := members & uint8(rnd.Uint32())
		port, other := uint8(rnd.IntN(8)), uint8(rnd.IntN(8))
		if members>>port&1 == 0 || members>>other&1 == 0 {
			continue
		}
		here, there := with(t, vid, members, untagged), with(t, vid, members, untagged)
		checkSetOwn(t, there, other, vid, api.OK)
		f := someFrame(rnd)
		g, is := here.Out(port, vid, f)
		if !is {
			continue
		}
		went[g.Tagged]++
		checkIn(t, there, other, g, vid)
		if bare(g) != bare(f) {
			t.Fatalf("%s went out as %s", brief(f), brief(g))
		}
		if s, e := frame.Put(g); e != api.OK {
			t.Fatalf("%s can't be put: %d", brief(g), e)
		} else if h, e := frame.Take(s); e != api.OK || h != g {
			t.Fatalf("%s came as %s, %d", brief(g), brief(h), e)
		}
	}
	if went[false] < 500 || went[true] < 500 {
		t.Errorf("too few frames went out: %v", went)
	}
}

// Calls on no table.
func TestNil(t *testing.T) {
	var b *vlan.Table
	checkSet(t, b, 1, 1, 0, api.ErrNil)
	checkSet(t, b, 0, 1, 2, api.ErrNil)
	checkDrop(t, b, 1, api.ErrNil)
	checkDrop(t, b, 0, api.ErrNil)
	checkSetOwn(t, b, 0, 1, api.ErrNil)
	checkSetOwn(t, b, 9, 4095, api.ErrNil)
	checkMembers(t, b, 1, 0)
	checkVlans(t, b)
	for port := range 256 {
		checkIn(t, b, uint8(port), x, 0)
		checkIn(t, b, uint8(port), tagged(x, 0, 1), 0)
		checkOutNone(t, b, uint8(port), 1, x)
	}
}

// R1: even a table that no New made ends every call: there are no ports.
func TestMadeByHand(t *testing.T) {
	var b vlan.Table
	checkVlans(t, &b)
	checkSet(t, &b, 1, 1, 0, api.ErrArg)
	checkSetOwn(t, &b, 0, 1, api.ErrArg)
	checkDrop(t, &b, 1, api.ErrNone)
	checkIn(t, &b, 0, x, 0)
	checkOutNone(t, &b, 0, 1, x)
	checkSet(t, &b, 1, 0, 0, api.OK)
	checkMembers(t, &b, 1, 0)
	checkVlans(t, &b, 1)
}

// R2: tables know nothing of each other.
func TestTwoTables(t *testing.T) {
	a, b := of(t, 2), of(t, 3)
	checkSet(t, a, 1, 3, 1, api.OK)
	checkSet(t, b, 2, 7, 0, api.OK)
	checkSetOwn(t, a, 0, 1, api.OK)
	checkVlans(t, a, 1)
	checkVlans(t, b, 2)
	checkSet(t, b, 1, 7, 0, api.OK)
	checkIn(t, a, 0, x, 1)
	checkIn(t, b, 0, x, 0)
	checkDrop(t, a, 1, api.OK)
	checkMembers(t, b, 1, 7)
}

// someFrame is a frame that may be at times, and at times not, with a tag or none.
func someFrame(rnd *rand.Rand) api.Frame {
	f := api.Frame{Dst: to, Src: from, Type: uint16(rnd.Uint32()), Data: strings.Repeat("s", rnd.IntN(40))}
	if rnd.IntN(8) == 0 {
		f.Type = frame.TagType
	}
	if rnd.IntN(8) == 0 {
		f.Data = strings.Repeat("l", api.MaxFrame-20+rnd.IntN(8))
	}
	if rnd.IntN(2) == 0 {
		return tagged(f, uint8(rnd.IntN(9)), someVid(rnd))
	}
	return f
}

// someVid is a small number for the most part, so that many are there; or one at the edge.
func someVid(rnd *rand.Rand) uint16 {
	if rnd.IntN(8) == 0 {
		return uint16(4093 + rnd.IntN(5))
	}
	return uint16(rnd.IntN(12))
}

// book is a table beside lists that do as the chapter says.
type book struct {
	b     *vlan.Table
	ports int
	own   []uint16
	vlans []entry
}

type entry struct {
	vid               uint16
	members, untagged uint8
}

func (k *book) at(vid uint16) int {
	return slices.IndexFunc(k.vlans, func(v entry) bool { return v.vid == vid })
}

// hasPort tells whether a set has the port: by the value 2^p, without a shift.
func hasPort(set uint8, port uint8) bool {
	value := 1
	for range port {
		value *= 2
		if value > 128 {
			return false
		}
	}
	return int(set)/value%2 == 1
}

func (k *book) set(t *testing.T, vid uint16, members, untagged uint8) {
	t.Helper()
	bad := vid == 0 || vid > 4094
	for port := range uint8(8) {
		bad = bad || hasPort(members, port) && int(port) >= k.ports
		bad = bad || hasPort(untagged, port) && !hasPort(members, port)
	}
	i := k.at(vid)
	switch {
	case bad:
		checkSet(t, k.b, vid, members, untagged, api.ErrArg)
	case i < 0 && len(k.vlans) == 8:
		checkSet(t, k.b, vid, members, untagged, api.ErrFull)
	case i < 0:
		checkSet(t, k.b, vid, members, untagged, api.OK)
		k.vlans = append(k.vlans, entry{vid, members, untagged})
	default:
		checkSet(t, k.b, vid, members, untagged, api.OK)
		k.vlans[i] = entry{vid, members, untagged}
	}
}

func (k *book) drop(t *testing.T, vid uint16) {
	t.Helper()
	i := k.at(vid)
	switch {
	case vid == 0 || vid > 4094:
		checkDrop(t, k.b, vid, api.ErrArg)
	case i < 0:
		checkDrop(t, k.b, vid, api.ErrNone)
	default:
		checkDrop(t, k.b, vid, api.OK)
		k.vlans = slices.Delete(k.vlans, i, i+1)
	}
}

func (k *book) setOwn(t *testing.T, port uint8, vid uint16) {
	t.Helper()
	if int(port) >= k.ports || vid > 4094 {
		checkSetOwn(t, k.b, port, vid, api.ErrArg)
		return
	}
	checkSetOwn(t, k.b, port, vid, api.OK)
	k.own[port] = vid
}

// holds holds that the table has just what the lists have.
func (k *book) holds(t *testing.T) {
	t.Helper()
	var vids []uint16
	for _, v := range k.vlans {
		vids = append(vids, v.vid)
	}
	slices.Sort(vids)
	checkVlans(t, k.b, vids...)
	for vid := range uint16(13) {
		want := uint8(0)
		if i := k.at(vid); i >= 0 {
			want = k.vlans[i].members
		}
		checkMembers(t, k.b, vid, want)
	}
}

func (k *book) in(t *testing.T, port uint8, f api.Frame) {
	t.Helper()
	vid := f.Vid
	if !f.Tagged || f.Vid == 0 {
		vid = 0
		if int(port) < k.ports {
			vid = k.own[port]
		}
	}
	if i := k.at(vid); i < 0 || !hasPort(k.vlans[i].members, port) {
		vid = 0
	}
	checkIn(t, k.b, port, f, vid)
}

func (k *book) out(t *testing.T, port uint8, vid uint16, f api.Frame) {
	t.Helper()
	i := k.at(vid)
	if i < 0 || !hasPort(k.vlans[i].members, port) {
		checkOutNone(t, k.b, port, vid, f)
		return
	}
	want := bare(f)
	if !hasPort(k.vlans[i].untagged, port) {
		want = tagged(f, f.Pri, vid)
	}
	if _, e := frame.Put(want); e != api.OK {
		checkOutNone(t, k.b, port, vid, f)
		return
	}
	checkOut(t, k.b, port, vid, f, want)
}

// act does one of the acts.
func (k *book) act(t *testing.T, rnd *rand.Rand) {
	t.Helper()
	port, vid := uint8(rnd.IntN(k.ports+2)), someVid(rnd)
	if rnd.IntN(16) == 0 {
		port = uint8(rnd.Uint32())
	}
	switch rnd.IntN(8) {
	case 0, 1:
		members := uint8(rnd.IntN(1 << k.ports))
		untagged := members & uint8(rnd.Uint32())
		if rnd.IntN(8) == 0 {
			members, untagged = uint8(rnd.Uint32()), uint8(rnd.Uint32())
		}
		k.set(t, vid, members, untagged)
	case 2:
		k.drop(t, vid)
	case 3:
		k.setOwn(t, port, vid)
	default:
		f := someFrame(rnd)
		k.in(t, port, f)
		k.out(t, port, vid, f)
	}
	k.holds(t)
}

// P7.1 to P7.4: behind any acts the table is what the chapter says.
func TestAnyActs(t *testing.T) {
	rnd := rand.New(rand.NewPCG(7, 1))
	for range 200 {
		ports := 1 + rnd.IntN(api.MaxPorts)
		k := book{b: of(t, ports), ports: ports, own: make([]uint16, ports)}
		for range 300 {
			k.act(t, rnd)
		}
	}
}
