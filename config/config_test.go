package config_test

import (
	"fmt"
	"math"
	"math/rand/v2"
	"slices"
	"strings"
	"testing"

	"viaduct/api"
	"viaduct/config"
)

// none is what stands where nothing stands.
var none = config.At{Mip: -1}

// all are the numbers of as many points as one association may have.
var all = []uint16{1, 2, 3, 4, 5, 6, 7, 8}

// of is an association with a name, a level and a VLAN, and the points from 1 to 8.
func of(name string, level uint8, vid uint16) config.Assoc {
	return config.Assoc{Level: level, Name: name, Vid: vid, Interval: 4, Meps: slices.Clone(all)}
}

// table is one of so many ports, with these associations.
func table(t *testing.T, ports int, l ...config.Assoc) *config.Table {
	t.Helper()
	b, e := config.New(ports)
	if e != api.OK || b == nil {
		t.Fatalf("New(%d) = %v, %d", ports, b, e)
	}
	for i, a := range l {
		checkAdd(t, b, a, i)
	}
	return b
}

// same tells whether two associations are alike.
func same(a, b config.Assoc) bool {
	return a.Level == b.Level && a.Domain == b.Domain && a.Name == b.Name &&
		a.Vid == b.Vid && a.Interval == b.Interval && slices.Equal(a.Meps, b.Meps)
}

// checkAdd holds that the association gets that place.
func checkAdd(t *testing.T, b *config.Table, a config.Assoc, want int) {
	t.Helper()
	if i, e := b.AddAssoc(a); i != want || e != api.OK {
		t.Fatalf("AddAssoc(%+v) = %d, %d; want %d", a, i, e, want)
	}
}

// checkAddNot holds that the association is not added.
func checkAddNot(t *testing.T, b *config.Table, a config.Assoc, err api.Errno) {
	t.Helper()
	if i, e := b.AddAssoc(a); i != 0 || e != err {
		t.Fatalf("AddAssoc(%+v) = %d, %d; want 0, %d", a, i, e, err)
	}
}

func checkAssoc(t *testing.T, b *config.Table, i int, want config.Assoc) {
	t.Helper()
	if a, is := b.Assoc(i); !same(a, want) || !is {
		t.Fatalf("Assoc(%d) = %+v, %t; want %+v", i, a, is, want)
	}
}

func checkAssocNone(t *testing.T, b *config.Table, i int) {
	t.Helper()
	if a, is := b.Assoc(i); !same(a, config.Assoc{}) || is {
		t.Fatalf("Assoc(%d) = %+v, %t; want none", i, a, is)
	}
}

// checkAssocs holds that there are these associations, and no more.
func checkAssocs(t *testing.T, b *config.Table, want ...config.Assoc) {
	t.Helper()
	for i, a := range want {
		checkAssoc(t, b, i, a)
	}
	checkAssocNone(t, b, len(want))
}

func checkAddMep(t *testing.T, b *config.Table, m config.Mep, err api.Errno) {
	t.Helper()
	if e := b.AddMep(m); e != err {
		t.Fatalf("AddMep(%+v) = %d; want %d", m, e, err)
	}
}

func checkDropMep(t *testing.T, b *config.Table, assoc int, mepid uint16, err api.Errno) {
	t.Helper()
	if e := b.DropMep(assoc, mepid); e != err {
		t.Fatalf("DropMep(%d, %d) = %d; want %d", assoc, mepid, e, err)
	}
}

func checkAddMip(t *testing.T, b *config.Table, port uint8, vid uint16, level uint8, err api.Errno) {
	t.Helper()
	if e := b.AddMip(config.Mip{Port: port, Vid: vid, Level: level}); e != err {
		t.Fatalf("AddMip(%d, %d, %d) = %d; want %d", port, vid, level, e, err)
	}
}

func checkDropMip(t *testing.T, b *config.Table, port uint8, vid uint16, err api.Errno) {
	t.Helper()
	if e := b.DropMip(port, vid); e != err {
		t.Fatalf("DropMip(%d, %d) = %d; want %d", port, vid, e, err)
	}
}

func checkMeps(t *testing.T, b *config.Table, want ...config.Mep) {
	t.Helper()
	if got := b.Meps(); !slices.Equal(got, want) {
		t.Fatalf("Meps() = %+v; want %+v", got, want)
	}
}

func checkAt(t *testing.T, b *config.Table, port uint8, vid uint16, want config.At) {
	t.Helper()
	if got := b.At(port, vid); got != want {
		t.Fatalf("At(%d, %d) = %+v; want %+v", port, vid, got, want)
	}
}

// The chapter's example.
func TestExample(t *testing.T) {
	b := table(t, 2)
	checkAdd(t, b, config.Assoc{Level: 3, Name: "a", Vid: 1, Interval: 4, Meps: []uint16{1, 2}}, 0)
	checkAddMep(t, b, config.Mep{Assoc: 0, Mepid: 1, Port: 0, Up: true}, api.OK)
	checkAddMip(t, b, 0, 1, 3, api.ErrState)
	checkAddMip(t, b, 0, 1, 4, api.OK)
	checkAt(t, b, 0, 1, config.At{Downs: 0, Ups: 8, Mip: 4})
}

// P16.1: a table of 1 to 8 ports, with nothing in it; none of other numbers of ports.
func TestNew(t *testing.T) {
	for ports := 1; ports <= api.MaxPorts; ports++ {
		b := table(t, ports)
		checkAssocs(t, b)
		checkMeps(t, b)
		for port := range 256 {
			checkAt(t, b, uint8(port), 1, none)
			checkDropMip(t, b, uint8(port), 1, api.ErrNone)
		}
		checkDropMep(t, b, 0, 1, api.ErrNone)
	}
	for _, ports := range []int{math.MinInt, math.MinInt32, -256, -8, -1, 0, api.MaxPorts + 1, 10, 16, 256, 257, 264, 1<<32 + 1, math.MaxInt} {
		if b, e := config.New(ports); b != nil || e != api.ErrArg {
			t.Errorf("New(%d) = %v, %d", ports, b, e)
		}
	}
}

// P16.1: an association stands at its place as it was added.
func TestAddAssoc(t *testing.T) {
	l := []config.Assoc{
		{Level: 0, Name: "~", Vid: 1, Interval: 4, Meps: []uint16{1}},
		{Level: 7, Domain: " ", Name: " ", Vid: 4094, Interval: 5, Meps: []uint16{8191}},
		{Level: 3, Domain: strings.Repeat("d", 43), Name: "n", Vid: 2, Interval: 4, Meps: []uint16{1, 8191}},
		{Level: 3, Domain: "d", Name: strings.Repeat("n", 43), Vid: 2, Interval: 4, Meps: []uint16{8184, 8185, 8186, 8187, 8188, 8189, 8190, 8191}},
		{Level: 3, Name: strings.Repeat("n", 44), Vid: 2, Interval: 5, Meps: all},
	}
	b := table(t, 1)
	for i, a := range l {
		checkAdd(t, b, a, i)
		checkAssocs(t, b, l[:i+1]...)
	}
}

// P16.1: of an association that may not be one part is wrong; nothing is added.
func TestAddAssocWrong(t *testing.T) {
	good := of("a", 3, 1)
	good.Domain = "d"
	for name, spoil := range map[string]func(a *config.Assoc){
		"level 8":                  func(a *config.Assoc) { a.Level = 8 },
		"level 255":                func(a *config.Assoc) { a.Level = 255 },
		"no name":                  func(a *config.Assoc) { a.Name = "" },
		"no names":                 func(a *config.Assoc) { a.Domain, a.Name = "", "" },
		"a name's byte below 32":   func(a *config.Assoc) { a.Name = "a\x1f" },
		"a name's byte above 126":  func(a *config.Assoc) { a.Name = "\x7fa" },
		"a name's byte of 0":       func(a *config.Assoc) { a.Name = "a\x00" },
		"a name of a long rune":    func(a *config.Assoc) { a.Name = "\u00e4" },
		"a name of no rune":        func(a *config.Assoc) { a.Name = "\xff" },
		"a domain's byte below 32": func(a *config.Assoc) { a.Domain = "\n" },
		"a domain of a long rune":  func(a *config.Assoc) { a.Domain = "d\u20ac" },
		"names of 45 bytes":        func(a *config.Assoc) { a.Name = strings.Repeat("n", 44) },
		"a name of 45 bytes":       func(a *config.Assoc) { a.Domain, a.Name = "", strings.Repeat("n", 45) },
		"a domain of 44 bytes":     func(a *config.Assoc) { a.Domain = strings.Repeat("d", 44) },
		"names of 300 bytes":       func(a *config.Assoc) { a.Name = strings.Repeat("n", 299) },
		"VLAN 0":                   func(a *config.Assoc) { a.Vid = 0 },
		"VLAN 4095":                func(a *config.Assoc) { a.Vid = 4095 },
		"VLAN 65535":               func(a *config.Assoc) { a.Vid = 65535 },
		"interval 0":               func(a *config.Assoc) { a.Interval = 0 },
		"interval 3":               func(a *config.Assoc) { a.Interval = 3 },
		"interval 6":               func(a *config.Assoc) { a.Interval = 6 },
		"interval 255":             func(a *config.Assoc) { a.Interval = 255 },
		"points nil":               func(a *config.Assoc) { a.Meps = nil },
		"no points":                func(a *config.Assoc) { a.Meps = []uint16{} },
		"9 points":                 func(a *config.Assoc) { a.Meps = []uint16{1, 2, 3, 4, 5, 6, 7, 8, 9} },
		"100000 points":            func(a *config.Assoc) { a.Meps = make([]uint16, 100000) },
		"point 0":                  func(a *config.Assoc) { a.Meps = []uint16{0} },
		"point 0 first":            func(a *config.Assoc) { a.Meps = []uint16{0, 1} },
		"point 8192":               func(a *config.Assoc) { a.Meps = []uint16{8192} },
		"point 8192 last":          func(a *config.Assoc) { a.Meps = []uint16{1, 8191, 8192} },
		"point 65535":              func(a *config.Assoc) { a.Meps = []uint16{65535} },
		"points twice":             func(a *config.Assoc) { a.Meps = []uint16{7, 7} },
		"points twice at the end":  func(a *config.Assoc) { a.Meps = []uint16{1, 2, 3, 3} },
		"points that fall":         func(a *config.Assoc) { a.Meps = []uint16{2, 1} },
		"points that fall late":    func(a *config.Assoc) { a.Meps = []uint16{1, 5, 9, 8} },
	} {
		t.Run(name, func(t *testing.T) {
			b, a := table(t, 1), good
			spoil(&a)
			checkAddNot(t, b, a, api.ErrArg)
			checkAssocs(t, b)
			checkAdd(t, b, good, 0)
			checkAddNot(t, b, a, api.ErrArg)
			checkAssocs(t, b, good)
		})
	}
}

// P16.1: all levels, intervals and VLANs, and all numbers of a point.
func TestAssocNumbers(t *testing.T) {
	add := func(a config.Assoc, may bool) {
		t.Helper()
		b := table(t, 1)
		if !may {
			checkAddNot(t, b, a, api.ErrArg)
			checkAssocs(t, b)
			return
		}
		checkAdd(t, b, a, 0)
		checkAssocs(t, b, a)
	}
	for n := range 1 << 16 {
		if n < 256 {
			a := of("a", uint8(n), 1)
			add(a, n <= 7)
			a = of("a", 1, 1)
			a.Interval = uint8(n)
			add(a, n == 4 || n == 5)
		}
		add(of("a", 1, uint16(n)), 1 <= n && n <= 4094)
		a := of("a", 1, 1)
		a.Meps = []uint16{uint16(n)}
		add(a, 1 <= n && n <= 8191)
	}
}

// P16.1: just associations of which both names are alike are of the same names.
func TestSameNames(t *testing.T) {
	named := func(domain, name string) config.Assoc {
		a := of(name, 1, 1)
		a.Domain = domain
		return a
	}
	l := []config.Assoc{named("", "ab"), named("a", "b"), named("b", "a"), named("a", "a"), named("", "a"), named("", "A"), named("", "a ")}
	b := table(t, 1, l...)
	for _, a := range l {
		a.Level, a.Vid, a.Interval, a.Meps = 7, 9, 5, []uint16{100}
		checkAddNot(t, b, a, api.ErrHave)
	}
	checkAssocs(t, b, l...)
	checkAdd(t, b, named("b", "b"), len(l))
}

// P16.1: there are eight at most.
func TestAssocsFull(t *testing.T) {
	var l []config.Assoc
	for i := range 8 {
		l = append(l, of(string(rune('a'+i)), uint8(i), uint16(1+i)))
	}
	b := table(t, 1, l...)
	checkAddNot(t, b, of("i", 1, 1), api.ErrFull)
	checkAddNot(t, b, of("z", 7, 4094), api.ErrFull)
	checkAssocs(t, b, l...)
}

// P16.1: of several errors the first one in the chapter's order.
func TestTwoErrorsOfAssocs(t *testing.T) {
	b := table(t, 1, of("a", 1, 1))
	a := of("a", 8, 1)
	checkAddNot(t, b, a, api.ErrArg) // and of a name that is there
	for i := 1; i < 8; i++ {
		checkAdd(t, b, of(fmt.Sprint(i), 1, 1), i)
	}
	checkAddNot(t, b, a, api.ErrArg) // and full
	checkAddNot(t, b, of("new", 1, 0), api.ErrArg)
	checkAddNot(t, b, of("a", 1, 1), api.ErrHave)
	checkAddNot(t, b, of("7", 1, 1), api.ErrHave)
	checkAddNot(t, b, of("new", 1, 1), api.ErrFull)
}

// P16.1: there is one of each place from 0 on, and none of others.
func TestPlaces(t *testing.T) {
	l := []config.Assoc{of("a", 1, 1), of("b", 2, 2), of("c", 3, 3)}
	b := table(t, 1, l...)
	for i, a := range l {
		checkAssoc(t, b, i, a)
	}
	for _, i := range []int{math.MinInt, math.MinInt32, -256, -3, -1, 3, 4, 7, 8, 256, 1 << 32, 1<<32 + 1, math.MaxInt} {
		checkAssocNone(t, b, i)
	}
}

// P16.1: what is handed in is neither changed nor kept, the room behind it neither.
func TestAddAssocKeepsNothing(t *testing.T) {
	room := []uint16{3, 4, 5, 77, 78}
	a := of("a", 1, 1)
	a.Meps = room[:3]
	b := table(t, 1, a)
	if !slices.Equal(room, []uint16{3, 4, 5, 77, 78}) {
		t.Fatal(room)
	}
	want := of("a", 1, 1)
	want.Meps = []uint16{3, 4, 5}
	for i := range room {
		room[i] = uint16(100 + i)
	}
	checkAssocs(t, b, want)
	checkAddMep(t, b, config.Mep{Mepid: 4}, api.OK)
	checkAddMep(t, b, config.Mep{Mepid: 101, Up: true}, api.ErrArg)
}

// P16.1: what is answered is one's own, spare room too.
func TestAssocIsNewMemory(t *testing.T) {
	want := of("a", 1, 1)
	want.Meps = []uint16{3, 4, 5}
	b := table(t, 1, want)
	one, _ := b.Assoc(0)
	two, _ := b.Assoc(0)
	room := one.Meps[:cap(one.Meps)]
	for i := range room {
		room[i] = 99
	}
	_ = append(one.Meps, 100)
	one.Name = "z"
	if !same(two, want) {
		t.Error(two)
	}
	checkAssocs(t, b, want)
	checkAddMep(t, b, config.Mep{Mepid: 99}, api.ErrArg)
	checkAddMep(t, b, config.Mep{Mepid: 3}, api.OK)
}

// P16.2: an end point is of a place, a number of that one's, and a port that are there.
func TestAddMepWrong(t *testing.T) {
	other := of("b", 2, 2)
	other.Meps = []uint16{100, 200}
	for ports := 1; ports <= api.MaxPorts; ports++ {
		b := table(t, ports, of("a", 1, 1), other)
		for _, i := range []int{math.MinInt, math.MinInt32, -256, -2, -1, 2, 3, 8, 256, 1 << 32, 1<<32 + 1, math.MaxInt} {
			checkAddMep(t, b, config.Mep{Assoc: i, Mepid: 1}, api.ErrArg)
			checkAddMep(t, b, config.Mep{Assoc: i, Mepid: 100}, api.ErrArg)
		}
		for _, mepid := range []uint16{0, 9, 100, 257, 8191, 8192, 65535} {
			checkAddMep(t, b, config.Mep{Assoc: 0, Mepid: mepid}, api.ErrArg)
		}
		for _, mepid := range []uint16{0, 1, 99, 101, 150, 201} {
			checkAddMep(t, b, config.Mep{Assoc: 1, Mepid: mepid}, api.ErrArg)
		}
		for port := ports; port < 256; port++ {
			checkAddMep(t, b, config.Mep{Assoc: 0, Mepid: 1, Port: uint8(port)}, api.ErrArg)
			checkAddMep(t, b, config.Mep{Assoc: 1, Mepid: 200, Port: uint8(port), Up: true}, api.ErrArg)
			checkAt(t, b, uint8(port), 1, none)
		}
		checkMeps(t, b)
		last := config.Mep{Assoc: 1, Mepid: 200, Port: uint8(ports - 1), Up: true}
		checkAddMep(t, b, last, api.OK)
		checkMeps(t, b, last)
		checkAt(t, b, uint8(ports-1), 2, config.At{Ups: 4, Mip: -1})
	}
}

// P16.2: one number of an association is one end point, wherever it would stand.
func TestSameNumber(t *testing.T) {
	b := table(t, 8, of("a", 3, 1), of("b", 3, 2))
	first := config.Mep{Assoc: 0, Mepid: 5, Port: 2}
	checkAddMep(t, b, first, api.OK)
	for port := range uint8(8) {
		for _, up := range []bool{false, true} {
			checkAddMep(t, b, config.Mep{Assoc: 0, Mepid: 5, Port: port, Up: up}, api.ErrHave)
		}
	}
	checkMeps(t, b, first)
	second := config.Mep{Assoc: 1, Mepid: 5, Port: 2}
	checkAddMep(t, b, second, api.OK) // of another association
	checkMeps(t, b, first, second)
}

// P16.2: of one port, VLAN, level and way there is one end point, of whatever
// association; if one of these is another one, there may be two.
func TestSameStand(t *testing.T) {
	l := []config.Assoc{of("a", 3, 1), of("b", 3, 1), of("c", 4, 1), of("d", 3, 2)}
	b := table(t, 2, l...)
	first := config.Mep{Assoc: 0, Mepid: 1, Port: 1}
	checkAddMep(t, b, first, api.OK)
	checkAddMep(t, b, config.Mep{Assoc: 0, Mepid: 2, Port: 1}, api.ErrHave)
	checkAddMep(t, b, config.Mep{Assoc: 1, Mepid: 7, Port: 1}, api.ErrHave)
	checkMeps(t, b, first)
	beside := []config.Mep{
		{Assoc: 1, Mepid: 7, Port: 1, Up: true},
		{Assoc: 0, Mepid: 2, Port: 0},
		{Assoc: 2, Mepid: 7, Port: 1},
		{Assoc: 3, Mepid: 7, Port: 1},
	}
	for _, m := range beside {
		checkAddMep(t, b, m, api.OK)
	}
	checkMeps(t, b, append([]config.Mep{first}, beside...)...)
	checkAt(t, b, 1, 1, config.At{Downs: 8 + 16, Ups: 8, Mip: -1})
	checkAt(t, b, 0, 1, config.At{Downs: 8, Mip: -1})
	checkAt(t, b, 1, 2, config.At{Downs: 8, Mip: -1})
	checkAt(t, b, 0, 2, none)
}

// P16.2, P16.4: a middle point stands above an end point, whichever is there first.
func TestMiddleAbove(t *testing.T) {
	for n := range 8 * 8 * 2 {
		end, middle, up := uint8(n/16), uint8(n/2%8), n%2 == 1
		want := api.OK
		if middle <= end {
			want = api.ErrState
		}
		m := config.Mep{Assoc: 0, Mepid: 1, Port: 1, Up: up}
		alone := config.At{Downs: 1 << end, Mip: -1}
		if up {
			alone = config.At{Ups: 1 << end, Mip: -1}
		}
		both := alone
		both.Mip = int(middle)

		b := table(t, 2, of("a", end, 9))
		checkAddMep(t, b, m, api.OK)
		checkAddMip(t, b, 1, 9, middle, want)
		if want == api.OK {
			checkAt(t, b, 1, 9, both)
		} else {
			checkAt(t, b, 1, 9, alone)
			checkDropMip(t, b, 1, 9, api.ErrNone)
		}

		b = table(t, 2, of("a", end, 9))
		checkAddMip(t, b, 1, 9, middle, api.OK)
		checkAddMep(t, b, m, want)
		if want == api.OK {
			checkAt(t, b, 1, 9, both)
			checkMeps(t, b, m)
		} else {
			checkAt(t, b, 1, 9, config.At{Mip: int(middle)})
			checkMeps(t, b)
		}
	}
}

// P16.2: of several end points the highest one says how high a middle point
// stands; those of other ports and VLANs say nothing.
func TestMiddleAboveAll(t *testing.T) {
	b := table(t, 2, of("a", 2, 1), of("b", 5, 1), of("c", 3, 1), of("d", 7, 1), of("e", 7, 2))
	for i, m := range []config.Mep{
		{Assoc: 0, Port: 1},
		{Assoc: 1, Port: 1, Up: true},
		{Assoc: 2, Port: 1},
		{Assoc: 3, Port: 0},
		{Assoc: 4, Port: 1},
	} {
		m.Mepid = uint16(1 + i)
		checkAddMep(t, b, m, api.OK)
	}
	for level := range uint8(6) {
		checkAddMip(t, b, 1, 1, level, api.ErrState)
	}
	checkAddMip(t, b, 1, 1, 6, api.OK)
	checkAddMip(t, b, 0, 1, 7, api.ErrState)
	checkAddMip(t, b, 0, 2, 0, api.OK)
	checkAddMip(t, b, 1, 2, 7, api.ErrState)
	checkAt(t, b, 1, 1, config.At{Downs: 4 + 8, Ups: 32, Mip: 6})
}

// P16.2: a middle point is of a port that is there, a VLAN and a level that may be.
func TestAddMipWrong(t *testing.T) {
	for ports := 1; ports <= api.MaxPorts; ports++ {
		b := table(t, ports)
		for n := range 256 {
			want := api.OK
			if n >= ports {
				want = api.ErrArg
			}
			checkAddMip(t, b, uint8(n), 1, 0, want)
			if want == api.OK {
				checkAt(t, b, uint8(n), 1, config.At{Mip: 0})
			} else {
				checkAt(t, b, uint8(n), 1, none)
				checkDropMip(t, b, uint8(n), 1, api.ErrNone)
			}
		}
		for level := range 256 {
			vid := uint16(100 + level)
			if level > 7 {
				checkAddMip(t, b, 0, vid, uint8(level), api.ErrArg)
				checkAt(t, b, 0, vid, none)
				continue
			}
			checkAddMip(t, b, 0, vid, uint8(level), api.OK)
			checkAt(t, b, 0, vid, config.At{Mip: level})
		}
	}
	b := table(t, 1)
	for n := range 1 << 16 {
		vid := uint16(n)
		if n < 1 || n > 4094 {
			checkAddMip(t, b, 0, vid, 7, api.ErrArg)
			checkAt(t, b, 0, vid, none)
			checkDropMip(t, b, 0, vid, api.ErrNone)
			continue
		}
		checkAddMip(t, b, 0, vid, 7, api.OK)
	}
	for n := 1; n <= 4094; n++ { // no number of middle points is too great
		checkAt(t, b, 0, uint16(n), config.At{Mip: 7})
	}
}

// P16.2: of a port and a VLAN there is one middle point, of whatever level.
func TestSameMip(t *testing.T) {
	b := table(t, 2)
	checkAddMip(t, b, 1, 1, 4, api.OK)
	for level := range uint8(8) {
		checkAddMip(t, b, 1, 1, level, api.ErrHave)
	}
	checkAt(t, b, 1, 1, config.At{Mip: 4})
	checkAddMip(t, b, 0, 1, 4, api.OK)
	checkAddMip(t, b, 1, 2, 3, api.OK)
	checkAt(t, b, 1, 1, config.At{Mip: 4})
	checkAt(t, b, 0, 1, config.At{Mip: 4})
	checkAt(t, b, 1, 2, config.At{Mip: 3})
	checkAt(t, b, 0, 2, none)
}

// P16.2: of several errors the first one in the chapter's order.
func TestTwoErrorsOfPoints(t *testing.T) {
	b := table(t, 2, of("a", 3, 1), of("b", 3, 1), of("c", 5, 1))
	checkAddMep(t, b, config.Mep{Assoc: 0, Mepid: 1, Port: 1}, api.OK)
	checkAddMip(t, b, 1, 1, 4, api.OK)
	checkAddMep(t, b, config.Mep{Assoc: 2, Mepid: 9, Port: 1}, api.ErrArg)   // and below it a middle point
	checkAddMep(t, b, config.Mep{Assoc: 0, Mepid: 1, Port: 2}, api.ErrArg)   // and of that number one
	checkAddMep(t, b, config.Mep{Assoc: 2, Mepid: 1, Port: 0}, api.OK)       // no middle point there
	checkAddMep(t, b, config.Mep{Assoc: 2, Mepid: 1, Port: 1}, api.ErrHave)  // and below it a middle point
	checkAddMep(t, b, config.Mep{Assoc: 2, Mepid: 2, Port: 1}, api.ErrState) // that alone
	checkAddMip(t, b, 1, 1, 8, api.ErrArg)                                   // and there is one
	checkAddMip(t, b, 1, 1, 3, api.ErrHave)                                  // and an end point as high
	checkAddMip(t, b, 0, 1, 5, api.ErrState)
}

// P16.2: what is dropped is no more, and what stands beside it stays.
func TestDropMep(t *testing.T) {
	b := table(t, 2, of("a", 3, 1), of("b", 4, 1))
	l := []config.Mep{
		{Assoc: 0, Mepid: 1, Port: 0},
		{Assoc: 1, Mepid: 1, Port: 0},
		{Assoc: 0, Mepid: 2, Port: 0, Up: true},
		{Assoc: 1, Mepid: 2, Port: 1, Up: true},
	}
	for _, m := range l {
		checkAddMep(t, b, m, api.OK)
	}
	checkDropMep(t, b, 1, 1, api.OK)
	checkMeps(t, b, l[0], l[2], l[3])
	checkAt(t, b, 0, 1, config.At{Downs: 8, Ups: 8, Mip: -1})
	checkDropMep(t, b, 1, 1, api.ErrNone)
	checkDropMep(t, b, 0, 1, api.OK)
	checkMeps(t, b, l[2], l[3])
	checkAt(t, b, 0, 1, config.At{Ups: 8, Mip: -1})
	checkAddMep(t, b, l[0], api.OK) // again, as the last one
	checkMeps(t, b, l[2], l[3], l[0])
	checkDropMep(t, b, 0, 2, api.OK)
	checkDropMep(t, b, 1, 2, api.OK)
	checkDropMep(t, b, 0, 1, api.OK)
	checkMeps(t, b)
	checkAt(t, b, 0, 1, none)
	checkAt(t, b, 1, 1, none)
	checkAssocs(t, b, of("a", 3, 1), of("b", 4, 1))
}

// P16.2: of an association or a number that there is not there is none to drop.
func TestDropMepNone(t *testing.T) {
	b := table(t, 1, of("a", 3, 1))
	m := config.Mep{Assoc: 0, Mepid: 1}
	checkAddMep(t, b, m, api.OK)
	for _, i := range []int{math.MinInt, -1, 1, 8, 1 << 32, math.MaxInt} {
		checkDropMep(t, b, i, 1, api.ErrNone)
	}
	for _, mepid := range []uint16{0, 2, 8, 9, 257, 8191, 8192, 65535} {
		checkDropMep(t, b, 0, mepid, api.ErrNone)
	}
	checkMeps(t, b, m)
}

// P16.2: a dropped middle point is in no end point's way, nor a dropped end point in its.
func TestDropMakesWay(t *testing.T) {
	b := table(t, 1, of("a", 5, 1))
	m := config.Mep{Assoc: 0, Mepid: 1, Up: true}
	checkAddMip(t, b, 0, 1, 5, api.OK)
	checkAddMep(t, b, m, api.ErrState)
	checkDropMip(t, b, 0, 1, api.OK)
	checkAt(t, b, 0, 1, none)
	checkAddMep(t, b, m, api.OK)
	checkAddMip(t, b, 0, 1, 5, api.ErrState)
	checkDropMep(t, b, 0, 1, api.OK)
	checkAddMip(t, b, 0, 1, 5, api.OK)
	checkAt(t, b, 0, 1, config.At{Mip: 5})
}

// P16.2: the one middle point of the port and the VLAN goes; of others there is none.
func TestDropMip(t *testing.T) {
	b := table(t, 2)
	checkAddMip(t, b, 1, 1, 4, api.OK)
	checkAddMip(t, b, 1, 2, 0, api.OK)
	checkAddMip(t, b, 0, 1, 6, api.OK)
	for _, port := range []uint8{2, 3, 8, 255} {
		checkDropMip(t, b, port, 1, api.ErrNone)
	}
	for _, vid := range []uint16{0, 3, 257, 4095, 65535} {
		checkDropMip(t, b, 1, vid, api.ErrNone)
	}
	checkDropMip(t, b, 0, 2, api.ErrNone)
	checkDropMip(t, b, 1, 1, api.OK)
	checkDropMip(t, b, 1, 1, api.ErrNone)
	checkAt(t, b, 1, 1, none)
	checkAt(t, b, 1, 2, config.At{Mip: 0})
	checkAt(t, b, 0, 1, config.At{Mip: 6})
	checkDropMip(t, b, 1, 2, api.OK) // of level 0
	checkAt(t, b, 1, 2, none)
}

// P16.3: in the order in which they were added; not by associations, numbers or ports.
func TestMepsOrder(t *testing.T) {
	rnd := rand.New(rand.NewPCG(16, 1))
	for range 50 {
		b := table(t, 8)
		for i := range 8 {
			checkAdd(t, b, of(fmt.Sprint(i), uint8(i), uint16(i%2+1)), i)
		}
		var want []config.Mep
		for _, n := range rnd.Perm(64) {
			m := config.Mep{Assoc: n / 8, Mepid: uint16(n%8 + 1), Port: uint8((n + n/8) % 8), Up: rnd.IntN(2) == 1}
			checkAddMep(t, b, m, api.OK)
			want = append(want, m)
		}
		checkMeps(t, b, want...)
	}
}

// P16.3: what is answered is one's own, spare room too, whatever is done behind it.
func TestMepsIsNewMemory(t *testing.T) {
	b := table(t, 8, of("a", 1, 1))
	var want []config.Mep
	for port := range uint8(5) {
		m := config.Mep{Mepid: uint16(port) + 1, Port: port}
		checkAddMep(t, b, m, api.OK)
		want = append(want, m)
	}
	one, two := b.Meps(), b.Meps()
	room := one[:cap(one)]
	for i := range room {
		room[i] = config.Mep{Assoc: 77}
	}
	_ = append(one, config.Mep{Assoc: 78})
	checkMeps(t, b, want...)
	checkDropMep(t, b, 0, 1, api.OK)
	checkAddMep(t, b, config.Mep{Mepid: 8, Port: 7}, api.OK)
	if !slices.Equal(two, want) {
		t.Error(two)
	}
	for n := uint16(2); n <= 5; n++ {
		checkDropMep(t, b, 0, n, api.OK)
	}
	checkDropMep(t, b, 0, 8, api.OK)
	empty := b.Meps()
	checkAddMep(t, b, want[0], api.OK)
	_ = append(empty, config.Mep{Assoc: 79})
	checkMeps(t, b, want[0])
}

// P16.3: each level is the bit of its value, down and up apart, and a middle
// point's level 0 is no lack of one.
func TestAtLevels(t *testing.T) {
	b := table(t, 8)
	for i := range 8 {
		checkAdd(t, b, of(fmt.Sprint(i), uint8(i), 5), i)
	}
	for level := range 8 {
		checkAddMep(t, b, config.Mep{Assoc: level, Mepid: 1, Port: 1}, api.OK)
		checkAddMep(t, b, config.Mep{Assoc: level, Mepid: 2, Port: 2, Up: true}, api.OK)
		set := uint8(1<<(level+1) - 1)
		checkAt(t, b, 1, 5, config.At{Downs: set, Mip: -1})
		checkAt(t, b, 2, 5, config.At{Ups: set, Mip: -1})
		checkAt(t, b, 0, 5, none)
		checkAt(t, b, 3, 5, none)
		checkAt(t, b, 1, 4, none)
		checkAt(t, b, 1, 0, none)
	}
	checkAddMip(t, b, 0, 5, 0, api.OK)
	checkAt(t, b, 0, 5, config.At{Mip: 0})
	for port := 8; port < 256; port++ {
		checkAt(t, b, uint8(port), 5, none)
	}
	for n := range 1 << 16 {
		if n != 5 {
			checkAt(t, b, 1, uint16(n), none)
		}
	}
}

// Calls on no table, whatever they are handed.
func TestNil(t *testing.T) {
	var b *config.Table
	checkAddNot(t, b, of("a", 1, 1), api.ErrNil)
	checkAddNot(t, b, config.Assoc{}, api.ErrNil)
	checkAddMep(t, b, config.Mep{Mepid: 1}, api.ErrNil)
	checkAddMep(t, b, config.Mep{Assoc: -1, Port: 255}, api.ErrNil)
	checkDropMep(t, b, 0, 1, api.ErrNil)
	checkDropMep(t, b, -1, 0, api.ErrNil)
	checkAddMip(t, b, 0, 1, 1, api.ErrNil)
	checkAddMip(t, b, 255, 0, 255, api.ErrNil)
	checkDropMip(t, b, 0, 1, api.ErrNil)
	checkDropMip(t, b, 255, 0, api.ErrNil)
	checkMeps(t, b)
	checkAt(t, b, 0, 1, none)
	for _, i := range []int{math.MinInt, -1, 0, 1, math.MaxInt} {
		checkAssocNone(t, b, i)
	}
}

// R1: a table that no New made, and so has no ports, ends every call too.
func TestMadeByHand(t *testing.T) {
	var b config.Table
	checkAdd(t, &b, of("a", 1, 1), 0)
	checkAddMep(t, &b, config.Mep{Mepid: 1}, api.ErrArg)
	checkDropMep(t, &b, 0, 1, api.ErrNone)
	checkAddMip(t, &b, 0, 1, 1, api.ErrArg)
	checkDropMip(t, &b, 0, 1, api.ErrNone)
	checkMeps(t, &b)
	checkAt(t, &b, 0, 1, none)
	checkAssocs(t, &b, of("a", 1, 1))
}

// R2: tables know nothing of each other.
func TestTwoTables(t *testing.T) {
	a, b := table(t, 2, of("a", 1, 1)), table(t, 1)
	checkAddMep(t, a, config.Mep{Mepid: 1, Port: 1}, api.OK)
	checkAddMip(t, a, 1, 1, 2, api.OK)
	checkAssocs(t, b)
	checkMeps(t, b)
	checkAt(t, b, 1, 1, none)
	checkAddMep(t, b, config.Mep{Mepid: 1}, api.ErrArg)
	checkDropMip(t, b, 1, 1, api.ErrNone)
	checkAdd(t, b, of("a", 7, 9), 0)
	checkAssocs(t, a, of("a", 1, 1))
	checkAt(t, a, 1, 1, config.At{Downs: 2, Mip: 2})
}

// book is a table beside notes of what was added to it and not dropped.
type book struct {
	b      *config.Table
	ports  int
	assocs []config.Assoc
	meps   []config.Mep
	mips   []config.Mip
}

// someAssoc is one of few names, for the most part one that may be.
func someAssoc(rnd *rand.Rand) config.Assoc {
	a := config.Assoc{
		Level:    uint8(rnd.IntN(8)),
		Domain:   []string{"", "d", "e"}[rnd.IntN(3)],
		Name:     []string{"a", "b", "c", "d", "e"}[rnd.IntN(5)],
		Vid:      uint16(1 + rnd.IntN(3)),
		Interval: uint8(4 + rnd.IntN(2)),
		Meps:     []uint16{1, 2, 3, 4, 5}[rnd.IntN(3):],
	}
	switch rnd.IntN(20) {
	case 0:
		a.Level = 8
	case 1:
		a.Vid = 0
	case 2:
		a.Interval = 3
	case 3:
		a.Name = ""
	case 4:
		a.Meps = []uint16{2, 1}
	}
	return a
}

func (k *book) addAssoc(t *testing.T, a config.Assoc) {
	t.Helper()
	taken := slices.ContainsFunc(k.assocs, func(o config.Assoc) bool { return [2]string{o.Domain, o.Name} == [2]string{a.Domain, a.Name} })
	switch {
	case a.Level == 8 || a.Vid == 0 || a.Interval == 3 || a.Name == "" || a.Meps[0] > a.Meps[1]:
		checkAddNot(t, k.b, a, api.ErrArg)
	case taken:
		checkAddNot(t, k.b, a, api.ErrHave)
	case len(k.assocs) == 8:
		checkAddNot(t, k.b, a, api.ErrFull)
	default:
		checkAdd(t, k.b, a, len(k.assocs))
		k.assocs = append(k.assocs, a)
	}
}

// mepError is what the chapter says of adding an end point.
func (k *book) mepError(m config.Mep) api.Errno {
	if m.Assoc < 0 || m.Assoc >= len(k.assocs) || int(m.Port) >= k.ports || !slices.Contains(k.assocs[m.Assoc].Meps, m.Mepid) {
		return api.ErrArg
	}
	a := k.assocs[m.Assoc]
	for _, o := range k.meps {
		c := k.assocs[o.Assoc]
		if o.Assoc == m.Assoc && o.Mepid == m.Mepid || o.Port == m.Port && c.Vid == a.Vid && c.Level == a.Level && o.Up == m.Up {
			return api.ErrHave
		}
	}
	for _, o := range k.mips {
		if o.Port == m.Port && o.Vid == a.Vid && o.Level <= a.Level {
			return api.ErrState
		}
	}
	return api.OK
}

// mipError is what the chapter says of adding a middle point.
func (k *book) mipError(m config.Mip) api.Errno {
	if int(m.Port) >= k.ports || m.Vid < 1 || m.Vid > 4094 || m.Level > 7 {
		return api.ErrArg
	}
	for _, o := range k.mips {
		if o.Port == m.Port && o.Vid == m.Vid {
			return api.ErrHave
		}
	}
	for _, o := range k.meps {
		a := k.assocs[o.Assoc]
		if o.Port == m.Port && a.Vid == m.Vid && a.Level >= m.Level {
			return api.ErrState
		}
	}
	return api.OK
}

// someAct does one of the acts, and answers what came of it.
func (k *book) someAct(t *testing.T, rnd *rand.Rand) (string, api.Errno) {
	t.Helper()
	m := config.Mep{Assoc: rnd.IntN(len(k.assocs)+2) - 1, Mepid: uint16(rnd.IntN(7)), Port: uint8(rnd.IntN(k.ports + 1)), Up: rnd.IntN(2) == 1}
	i := config.Mip{Port: uint8(rnd.IntN(k.ports + 1)), Vid: uint16(rnd.IntN(4)), Level: uint8(rnd.IntN(9))}
	if rnd.IntN(30) == 0 {
		i.Vid = 4095
	}
	switch act := rnd.IntN(20); {
	case act < 1:
		k.addAssoc(t, someAssoc(rnd))
		return "assoc", api.OK
	case act < 10:
		e := k.mepError(m)
		checkAddMep(t, k.b, m, e)
		if e == api.OK {
			k.meps = append(k.meps, m)
		}
		return "mep", e
	case act < 13:
		e := k.mipError(i)
		checkAddMip(t, k.b, i.Port, i.Vid, i.Level, e)
		if e == api.OK {
			k.mips = append(k.mips, i)
		}
		return "mip", e
	case act < 17:
		return "drop mep", k.dropMep(t, m)
	default:
		return "drop mip", k.dropMip(t, i)
	}
}

func (k *book) dropMep(t *testing.T, m config.Mep) api.Errno {
	t.Helper()
	before := len(k.meps)
	k.meps = slices.DeleteFunc(k.meps, func(o config.Mep) bool { return o.Assoc == m.Assoc && o.Mepid == m.Mepid })
	e := api.OK
	if len(k.meps) == before {
		e = api.ErrNone
	}
	checkDropMep(t, k.b, m.Assoc, m.Mepid, e)
	return e
}

func (k *book) dropMip(t *testing.T, m config.Mip) api.Errno {
	t.Helper()
	before := len(k.mips)
	k.mips = slices.DeleteFunc(k.mips, func(o config.Mip) bool { return o.Port == m.Port && o.Vid == m.Vid })
	e := api.OK
	if len(k.mips) == before {
		e = api.ErrNone
	}
	checkDropMip(t, k.b, m.Port, m.Vid, e)
	return e
}

// holds holds that the table has just what the notes have, and that every
// middle point stands above all end points, no two of one level and one way.
func (k *book) holds(t *testing.T) {
	t.Helper()
	checkAssocs(t, k.b, k.assocs...)
	checkMeps(t, k.b, k.meps...)
	for port := range uint8(k.ports + 1) {
		for vid := range uint16(5) {
			want, points := none, 0
			for _, m := range k.meps {
				a := k.assocs[m.Assoc]
				if m.Port != port || a.Vid != vid {
					continue
				}
				points++
				bit := []uint8{1, 2, 4, 8, 16, 32, 64, 128}[a.Level]
				if m.Up {
					want.Ups |= bit
				} else {
					want.Downs |= bit
				}
			}
			for _, m := range k.mips {
				if m.Port == port && m.Vid == vid {
					want.Mip = int(m.Level)
				}
			}
			checkAt(t, k.b, port, vid, want)
			checkOrder(t, k.b.At(port, vid), points)
		}
	}
}

// checkOrder holds that so many end points have levels, each its own of its
// way, and that a middle point's is above them.
func checkOrder(t *testing.T, at config.At, points int) {
	t.Helper()
	levels := 0
	for level := range 8 {
		down, up := int(at.Downs>>level&1), int(at.Ups>>level&1)
		levels += down + up
		if down+up > 0 && at.Mip != -1 && at.Mip <= level {
			t.Fatalf("a middle point not above all: %+v", at)
		}
	}
	if levels != points {
		t.Fatalf("%d end points, %d levels: %+v", points, levels, at)
	}
}

// P16.1 to P16.4: behind any acts the table has what the chapter says.
func TestAnyActs(t *testing.T) {
	rnd := rand.New(rand.NewPCG(16, 2))
	seen := map[string]int{}
	for round := range 60 {
		ports := 1 + round%8
		k := book{b: table(t, ports), ports: ports}
		for range 300 {
			act, e := k.someAct(t, rnd)
			seen[fmt.Sprint(act, " ", e)]++
			k.holds(t)
		}
	}
	for _, act := range []string{"mep 0", "mep 2", "mep 8", "mep 9", "mip 0", "mip 2", "mip 8", "mip 9", "drop mep 0", "drop mep 7", "drop mip 0", "drop mip 7"} {
		if seen[act] < 50 {
			t.Errorf("%q came %d times", act, seen[act])
		}
	}
}

// P16.4: a Drop takes away what an Add added, and nothing else: all is as it was.
func TestAddThenDrop(t *testing.T) {
	rnd := rand.New(rand.NewPCG(16, 3))
	for range 40 {
		k := book{b: table(t, 3), ports: 3}
		for range 200 {
			k.someAct(t, rnd)
			m := config.Mep{Assoc: rnd.IntN(len(k.assocs) + 1), Mepid: uint16(rnd.IntN(6)), Port: uint8(rnd.IntN(3)), Up: rnd.IntN(2) == 1}
			if k.b.AddMep(m) == api.OK {
				checkDropMep(t, k.b, m.Assoc, m.Mepid, api.OK)
			}
			k.holds(t)
			i := config.Mip{Port: uint8(rnd.IntN(3)), Vid: uint16(rnd.IntN(4)), Level: uint8(rnd.IntN(8))}
			if k.b.AddMip(i) == api.OK {
				checkDropMip(t, k.b, i.Port, i.Vid, api.OK)
			}
			k.holds(t)
		}
	}
}
