package level_test

import (
	"math"
	"testing"

	"viaduct/api"
	"viaduct/config"
	"viaduct/level"
)

const (
	drop   = level.Drop
	pass   = level.Pass
	take   = level.Take
	middle = level.Middle
)

// cases are ports, and the fates there of messages of the levels from 0 to 7.
var cases = []struct {
	name        string
	at          config.At
	wire, relay [8]level.Fate
}{
	{
		"the chapter's",
		config.At{Downs: 1 << 2, Ups: 1 << 5, Mip: 6},
		[8]level.Fate{drop, drop, take, drop, drop, drop, middle, pass},
		[8]level.Fate{drop, drop, drop, drop, drop, take, middle, pass},
	},
	{
		"nothing",
		config.At{Mip: -1},
		[8]level.Fate{pass, pass, pass, pass, pass, pass, pass, pass},
		[8]level.Fate{pass, pass, pass, pass, pass, pass, pass, pass},
	},
	{
		"a middle point of the least level",
		config.At{Mip: 0},
		[8]level.Fate{middle, pass, pass, pass, pass, pass, pass, pass},
		[8]level.Fate{middle, pass, pass, pass, pass, pass, pass, pass},
	},
	{
		"a middle point of the highest level",
		config.At{Mip: 7},
		[8]level.Fate{pass, pass, pass, pass, pass, pass, pass, middle},
		[8]level.Fate{pass, pass, pass, pass, pass, pass, pass, middle},
	},
	{
		"a down end point",
		config.At{Downs: 1 << 3, Mip: -1},
		[8]level.Fate{drop, drop, drop, take, pass, pass, pass, pass},
		[8]level.Fate{drop, drop, drop, drop, pass, pass, pass, pass},
	},
	{
		"an up end point",
		config.At{Ups: 1 << 3, Mip: -1},
		[8]level.Fate{drop, drop, drop, drop, pass, pass, pass, pass},
		[8]level.Fate{drop, drop, drop, take, pass, pass, pass, pass},
	},
	{
		"several of one way: one takes what a higher one would drop",
		config.At{Downs: 1<<1 | 1<<4 | 1<<6, Mip: 7},
		[8]level.Fate{drop, take, drop, drop, take, drop, take, middle},
		[8]level.Fate{drop, drop, drop, drop, drop, drop, drop, middle},
	},
	{
		"several up ones",
		config.At{Ups: 1<<0 | 1<<2, Mip: 3},
		[8]level.Fate{drop, drop, drop, middle, pass, pass, pass, pass},
		[8]level.Fate{take, drop, take, middle, pass, pass, pass, pass},
	},
	{
		"one level, both ways",
		config.At{Downs: 1 << 4, Ups: 1 << 4, Mip: -1},
		[8]level.Fate{drop, drop, drop, drop, take, pass, pass, pass},
		[8]level.Fate{drop, drop, drop, drop, take, pass, pass, pass},
	},
	{
		"a down one above an up one",
		config.At{Downs: 1 << 6, Ups: 1 << 1, Mip: -1},
		[8]level.Fate{drop, drop, drop, drop, drop, drop, take, pass},
		[8]level.Fate{drop, take, drop, drop, drop, drop, drop, pass},
	},
	{
		"the lowest and the highest level",
		config.At{Downs: 1 << 0, Ups: 1 << 7, Mip: -1},
		[8]level.Fate{take, drop, drop, drop, drop, drop, drop, drop},
		[8]level.Fate{drop, drop, drop, drop, drop, drop, drop, take},
	},
	{
		"all levels, both ways",
		config.At{Downs: 255, Ups: 255, Mip: -1},
		[8]level.Fate{take, take, take, take, take, take, take, take},
		[8]level.Fate{take, take, take, take, take, take, take, take},
	},
}

// checkFates holds what becomes of a message from the wire, and from the relay.
func checkFates(t *testing.T, at config.At, l uint8, wire, relay level.Fate) {
	t.Helper()
	if got := level.Wire(at, l); got != wire {
		t.Fatalf("Wire(%+v, %d) = %d; want %d", at, l, got, wire)
	}
	if got := level.Relay(at, l); got != relay {
		t.Fatalf("Relay(%+v, %d) = %d; want %d", at, l, got, relay)
	}
}

// P17.1: the fates have the numbers that count on from Drop.
func TestFatesCountOn(t *testing.T) {
	for i, f := range []level.Fate{drop, pass, take, middle} {
		if int(f) != i {
			t.Errorf("fate %d = %d", i, f)
		}
	}
}

// P17.1: what becomes of a message of each level.
func TestFates(t *testing.T) {
	for _, c := range cases {
		t.Run(c.name, func(t *testing.T) {
			for l := range uint8(8) {
				checkFates(t, c.at, l, c.wire[l], c.relay[l])
			}
		})
	}
}

// P17.1: of a level above 7 all is dropped, whatever stands there.
func TestLevelsThatMayNotBe(t *testing.T) {
	ports := []config.At{{}, {Mip: -1}, {Mip: 8}, {Mip: 255}, {Downs: 255, Ups: 255, Mip: 7}, {Downs: 1, Ups: 1, Mip: 6}}
	for _, at := range ports {
		for l := 8; l <= math.MaxUint8; l++ {
			checkFates(t, at, uint8(l), drop, drop)
		}
	}
}

// P17.1: a middle point of a level that there is not is told of nothing.
func TestMiddlePointsThatMayNotBe(t *testing.T) {
	for _, mip := range []int{-1, -8, 8, 9, 256, 263, math.MaxInt, math.MinInt} {
		for l := range uint8(8) {
			checkFates(t, config.At{Mip: mip}, l, pass, pass)
		}
	}
}

// P17.1: a middle point that no table has, not above the end points, is not told of what is dropped or taken.
func TestMiddlePointsBelow(t *testing.T) {
	at := config.At{Downs: 1 << 3, Mip: 3}
	checkFates(t, at, 3, take, drop)
	at = config.At{Ups: 1 << 5, Mip: 3}
	checkFates(t, at, 3, drop, drop)
	checkFates(t, at, 6, pass, pass)
}

// facing is what becomes of a message at the end points of one way, that face whence it comes, one by one.
func facing(set, l uint8) level.Fate {
	f := pass
	for own := range uint8(8) {
		switch {
		case set&(1<<own) == 0:
		case own == l:
			return take
		case l < own:
			f = drop
		}
	}
	return f
}

// averted is what becomes of a message at the end points of one way, that look away from whence it comes.
func averted(set, l uint8) level.Fate {
	for own := range uint8(8) {
		if set&(1<<own) != 0 && l <= own {
			return drop
		}
	}
	return pass
}

// walked is what becomes of a message that goes past what stands there, one behind the other.
func walked(first, last level.Fate, mip int, l uint8) level.Fate {
	switch {
	case first != pass:
		return first
	case last != pass:
		return last
	case mip == int(l):
		return middle
	}
	return pass
}

// P17.1: at every port that there can be, all is as the stands do it one behind the other.
func TestEveryPort(t *testing.T) {
	for sets := range 1 << 16 {
		downs, ups := uint8(sets), uint8(sets>>8)
		for mip := -1; mip < 8; mip++ {
			at := config.At{Downs: downs, Ups: ups, Mip: mip}
			for l := range uint8(8) {
				wire := walked(facing(downs, l), averted(ups, l), mip, l)
				relay := walked(facing(ups, l), averted(downs, l), mip, l)
				checkFates(t, at, l, wire, relay)
			}
		}
	}
}

// P17.2: up to the level of an end point nothing passes, either way; above all of them everything does.
func TestNothingPassesUpToEndPoints(t *testing.T) {
	goesOn := func(f level.Fate) bool { return f == pass || f == middle }
	for sets := range 1 << 16 {
		at := config.At{Downs: uint8(sets), Ups: uint8(sets >> 8), Mip: sets%9 - 1}
		for l := range 8 {
			above := (sets&255)>>l == 0 && sets>>8>>l == 0
			if goesOn(level.Wire(at, uint8(l))) != above || goesOn(level.Relay(at, uint8(l))) != above {
				t.Fatalf("%+v, level %d: passes; above all is %t", at, l, above)
			}
		}
	}
}

// P17.1: what a table tells of a port is what the fates are of.
func TestTable(t *testing.T) {
	b, _ := config.New(1)
	for i, l := range []uint8{2, 5} {
		a := config.Assoc{Level: l, Name: string(rune('a' + i)), Vid: 1, Interval: 4, Meps: []uint16{1}}
		if n, e := b.AddAssoc(a); n != i || e != api.OK {
			t.Fatal(n, e)
		}
		if e := b.AddMep(config.Mep{Assoc: i, Mepid: 1, Up: l == 5}); e != api.OK {
			t.Fatal(e)
		}
	}
	if e := b.AddMip(config.Mip{Vid: 1, Level: 6}); e != api.OK {
		t.Fatal(e)
	}
	for l := range uint8(8) {
		checkFates(t, b.At(0, 1), l, cases[0].wire[l], cases[0].relay[l])
		checkFates(t, b.At(0, 2), l, pass, pass)
	}
}
