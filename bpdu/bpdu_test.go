package bpdu_test

import (
	"encoding/binary"
	"math"
	"math/rand/v2"
	"strings"
	"testing"

	"viaduct/api"
	"viaduct/bpdu"
	"viaduct/vector"
)

// size is how many bytes a word has.
const size = 42

// Where the parts of a word's bytes stand.
const (
	atRole  = 2
	atFlags = 3
	atCost  = 12
	atPort  = 24
	atHops  = 25
	atEcho  = 34
)

// some are words that may be, and their bytes.
var some = []struct {
	name  string
	b     bpdu.Bpdu
	bytes string
}{
	{
		"the chapter's",
		bpdu.Bpdu{V: vector.Vector{Root: 1, Cost: 2, Bridge: 3, Port: 4}, Hops: 5, Version: 6, Role: bpdu.Designated, Proposal: true},
		"\x43\x4d\x02\x01" + "\x00\x00\x00\x00\x00\x00\x00\x01" + "\x00\x00\x00\x02" + "\x00\x00\x00\x00\x00\x00\x00\x03" + "\x04\x05" + "\x00\x00\x00\x00\x00\x00\x00\x06" + "\x00\x00\x00\x00\x00\x00\x00\x00",
	},
	{
		"zeros, but the role",
		bpdu.Bpdu{Role: bpdu.Other},
		"\x43\x4d\x03\x00" + strings.Repeat("\x00", 38),
	},
	{
		"unlike bytes in each number",
		bpdu.Bpdu{V: vector.Vector{Root: 0x0102030405060708, Cost: 0xa1b2c3, Bridge: 0x1112131415161718, Port: 6}, Hops: 19, Version: 0x2122232425262728, Role: bpdu.Root, Agree: true, Echo: 0x3132333435363738},
		"\x43\x4d\x01\x02" + "\x01\x02\x03\x04\x05\x06\x07\x08" + "\x00\xa1\xb2\xc3" + "\x11\x12\x13\x14\x15\x16\x17\x18" + "\x06\x13" + "\x21\x22\x23\x24\x25\x26\x27\x28" + "\x31\x32\x33\x34\x35\x36\x37\x38",
	},
	{
		"the greatest numbers",
		greatest(),
		"\x43\x4d\x01\x06" + strings.Repeat("\xff", 8) + "\x01\x00\x00\x00" + strings.Repeat("\xff", 8) + "\x07\x14" + strings.Repeat("\xff", 16),
	},
}

// greatest is a word of which each number is as great as it may be.
func greatest() bpdu.Bpdu {
	return bpdu.Bpdu{
		V:        vector.Vector{Root: math.MaxUint64, Cost: vector.MaxCost, Bridge: math.MaxUint64, Port: api.MaxPorts - 1},
		Hops:     api.MaxHops,
		Version:  math.MaxUint64,
		Role:     bpdu.Root,
		Agree:    true,
		Topology: true,
		Echo:     math.MaxUint64,
	}
}

func checkPut(t *testing.T, b bpdu.Bpdu, want string, err api.Errno) {
	t.Helper()
	if got, e := bpdu.Put(b); got != want || e != err {
		t.Errorf("Put(%+v) = %x, %d; want %x, %d", b, got, e, want, err)
	}
}

func checkTake(t *testing.T, s string, want bpdu.Bpdu, err api.Errno) {
	t.Helper()
	if got, e := bpdu.Take(s); got != want || e != err {
		t.Errorf("Take(%x) = %+v, %d; want %+v, %d", s, got, e, want, err)
	}
}

// mayBe tells it as the chapter does, a condition a line.
func mayBe(b bpdu.Bpdu) bool {
	is := b.V.Port < 8
	is = is && b.V.Cost <= 1<<24
	is = is && b.Hops <= 20
	is = is && (b.Role == bpdu.Root || b.Role == bpdu.Designated || b.Role == bpdu.Other)
	is = is && (!b.Proposal || b.Role == bpdu.Designated)
	is = is && (!b.Agree || b.Role == bpdu.Root)
	return is && (b.Agree || b.Echo == 0)
}

// bytesOf are the bytes of a word, may it be or not.
func bytesOf(b bpdu.Bpdu) string {
	var flags byte
	if b.Proposal {
		flags += 1
	}
	if b.Agree {
		flags += 2
	}
	if b.Topology {
		flags += 4
	}
	out := []byte{0x43, 0x4d, b.Role, flags}
	out = binary.BigEndian.AppendUint64(out, b.V.Root)
	out = binary.BigEndian.AppendUint32(out, b.V.Cost)
	out = binary.BigEndian.AppendUint64(out, b.V.Bridge)
	out = append(out, b.V.Port, b.Hops)
	out = binary.BigEndian.AppendUint64(out, b.Version)
	return string(binary.BigEndian.AppendUint64(out, b.Echo))
}

// checkWord holds that a word is put, and its bytes are taken, just if it may be.
func checkWord(t *testing.T, b bpdu.Bpdu) {
	t.Helper()
	s := bytesOf(b)
	if mayBe(b) {
		checkPut(t, b, s, api.OK)
		checkTake(t, s, b, api.OK)
		return
	}
	checkPut(t, b, "", api.ErrArg)
	checkTake(t, s, bpdu.Bpdu{}, api.ErrForm)
}

func TestRoles(t *testing.T) {
	if bpdu.Root != 1 || bpdu.Designated != 2 || bpdu.Other != 3 {
		t.Error(bpdu.Root, bpdu.Designated, bpdu.Other)
	}
}

// P5.1, P5.2
func TestPutAndTake(t *testing.T) {
	for _, c := range some {
		t.Run(c.name, func(t *testing.T) {
			if len(c.bytes) != size {
				t.Fatal(len(c.bytes))
			}
			checkPut(t, c.b, c.bytes, api.OK)
			checkTake(t, c.bytes, c.b, api.OK)
		})
	}
}

// P5.1, P5.2: of each role, each of the flags, with an echo and without one: proposes only as Designated, agrees only as Root, echoes only if it agrees.
func TestRolesAndFlags(t *testing.T) {
	words := 0
	for role := range 256 {
		for flags := range 8 {
			for _, echo := range []uint64{0, 1, 1 << 63, math.MaxUint64} {
				b := bpdu.Bpdu{Role: uint8(role), Proposal: flags&1 != 0, Agree: flags&2 != 0, Topology: flags&4 != 0, Echo: echo}
				checkWord(t, b)
				if mayBe(b) {
					words++
				}
			}
		}
	}
	// Twice, for topology: Root silent, or with each of the echoes; Designated silent, or proposing; Other silent.
	if words != 2*(5+2+1) {
		t.Error(words)
	}
}

// P5.1, P5.2: up to the limits it may be, beyond them not; no other number has one.
func TestLimits(t *testing.T) {
	for n := range 256 {
		checkWord(t, bpdu.Bpdu{Role: bpdu.Other, V: vector.Vector{Port: uint8(n)}})
		checkWord(t, bpdu.Bpdu{Role: bpdu.Other, Hops: uint8(n)})
	}
	for _, cost := range []uint32{0, 1, 255, 1 << 16, 1<<24 - 1, 1 << 24, 1<<24 + 1, 1 << 25, 1 << 31, 1<<31 + 1, math.MaxUint32} {
		checkWord(t, bpdu.Bpdu{Role: bpdu.Designated, V: vector.Vector{Cost: cost}})
	}
	for bit := range 64 {
		n := uint64(1) << bit
		checkWord(t, bpdu.Bpdu{Role: bpdu.Designated, V: vector.Vector{Root: n}})
		checkWord(t, bpdu.Bpdu{Role: bpdu.Designated, V: vector.Vector{Bridge: n}})
		checkWord(t, bpdu.Bpdu{Role: bpdu.Designated, Version: n})
		checkWord(t, bpdu.Bpdu{Role: bpdu.Root, Agree: true, Echo: n})
	}
}

// P5.1: the limits stand by their numbers.
func TestLimitsByNumber(t *testing.T) {
	b := greatest()
	b.V.Port, b.Hops, b.V.Cost = 7, 20, 1<<24
	if _, e := bpdu.Put(b); e != api.OK {
		t.Error(e)
	}
	port, hops, cost := b, b, b
	port.V.Port, hops.Hops, cost.V.Cost = 8, 21, 1<<24+1
	checkPut(t, port, "", api.ErrArg)
	checkPut(t, hops, "", api.ErrArg)
	checkPut(t, cost, "", api.ErrArg)
	checkPut(t, bpdu.Bpdu{}, "", api.ErrArg) // of no role
}

// P5.2, P5.3: noughts behind, as many as there are, don't matter; any other byte among them does.
func TestTakeWithBytesBehind(t *testing.T) {
	for _, c := range some {
		for _, n := range []int{1, 2, 18, 1000, 1 << 16} {
			checkTake(t, c.bytes+strings.Repeat("\x00", n), c.b, api.OK)
		}
		for _, behind := range []string{"x", "0", " ", "\n", "\x01", "\x80", "\xff", "\x00x", "x\x00", "\x00\x01\x00", "\x00\x00\xff", "é", "\x00é", c.bytes, "\x00" + c.bytes} {
			checkTake(t, c.bytes+behind, bpdu.Bpdu{}, api.ErrForm)
		}
	}
	for b := 1; b < 256; b++ {
		checkTake(t, some[0].bytes+string([]byte{0, byte(b), 0}), bpdu.Bpdu{}, api.ErrForm)
	}
}

// P5.2: bytes that end too soon are short, though they are those of no word too.
func TestTakeShort(t *testing.T) {
	none := strings.Repeat("\xff", size)
	for n := range size {
		for _, c := range some {
			checkTake(t, c.bytes[:n], bpdu.Bpdu{}, api.ErrShort)
		}
		checkTake(t, none[:n], bpdu.Bpdu{}, api.ErrShort)
		checkTake(t, strings.Repeat("\x00", n), bpdu.Bpdu{}, api.ErrShort)
	}
	checkTake(t, none, bpdu.Bpdu{}, api.ErrForm)
	checkTake(t, strings.Repeat("\x00", size), bpdu.Bpdu{}, api.ErrForm)
	checkTake(t, strings.Repeat("\x00", 10*size), bpdu.Bpdu{}, api.ErrForm)
}

// P5.2: all that may stand at a place ahead of the numbers, and where numbers have limits.
func TestTakeEachByte(t *testing.T) {
	root, designated := some[2], some[0]
	for n := range 256 {
		checkByte(t, root.bytes, 0, n, n == 0x43)
		checkByte(t, root.bytes, 1, n, n == 0x4d)
		checkByte(t, root.bytes, atRole, n, n == 1)
		checkByte(t, root.bytes, atFlags, n, n == 2 || n == 6)
		checkByte(t, root.bytes, atPort, n, n < 8)
		checkByte(t, root.bytes, atHops, n, n <= 20)
		checkByte(t, root.bytes, atCost, n, n == 0) // what is below makes 2^24 and more
		checkByte(t, designated.bytes, 0, n, n == 0x43)
		checkByte(t, designated.bytes, 1, n, n == 0x4d)
		checkByte(t, designated.bytes, atRole, n, n == 2)
		checkByte(t, designated.bytes, atFlags, n, n == 0 || n == 1 || n == 4 || n == 5)
		for i := range 8 {
			checkByte(t, designated.bytes, atEcho+i, n, n == 0)
		}
	}
	checkTake(t, "\x4d\x43"+root.bytes[2:], bpdu.Bpdu{}, api.ErrForm)
}

// checkByte holds that with that byte at a place there is a word, put as those bytes, just if so is told.
func checkByte(t *testing.T, s string, place, b int, is bool) {
	t.Helper()
	s = s[:place] + string([]byte{byte(b)}) + s[place+1:]
	if !is {
		checkTake(t, s, bpdu.Bpdu{}, api.ErrForm)
		return
	}
	got, e := bpdu.Take(s)
	if e != api.OK || bytesOf(got) != s {
		t.Errorf("Take(%x) = %+v, %d", s, got, e)
	}
	checkPut(t, got, s, api.OK)
}

// someNumber is of any length of bits, so that small ones come too.
func someNumber(rnd *rand.Rand) uint64 { return rnd.Uint64() >> rnd.IntN(64) }

// someWord may be mostly: its numbers lie about the limits.
func someWord(rnd *rand.Rand) bpdu.Bpdu {
	b := bpdu.Bpdu{
		V:        vector.Vector{Root: someNumber(rnd), Cost: uint32(rnd.IntN(vector.MaxCost + 1)), Bridge: someNumber(rnd), Port: uint8(rnd.IntN(8))},
		Hops:     uint8(rnd.IntN(21)),
		Version:  someNumber(rnd),
		Role:     uint8(1 + rnd.IntN(3)),
		Topology: rnd.IntN(2) == 0,
	}
	b.Proposal = b.Role == bpdu.Designated && rnd.IntN(2) == 0
	if b.Role == bpdu.Root && rnd.IntN(2) == 0 {
		b.Agree, b.Echo = true, someNumber(rnd)
	}
	return b
}

// spoilt is a word of which one thing is another one, so that it may be or not.
func spoilt(rnd *rand.Rand, b bpdu.Bpdu) bpdu.Bpdu {
	switch rnd.IntN(10) {
	case 0:
		b.V.Port += 1 << rnd.IntN(8)
	case 1:
		b.V.Cost += 1 << rnd.IntN(32)
	case 2:
		b.Hops += 1 << rnd.IntN(8)
	case 3:
		b.Role ^= 1 << rnd.IntN(8)
	case 4:
		b.Proposal = !b.Proposal
	case 5:
		b.Agree = !b.Agree
	case 6:
		b.Topology = !b.Topology
	case 7:
		b.Echo ^= 1 << rnd.IntN(64)
	case 8:
		b.Version ^= 1 << rnd.IntN(64)
	case 9:
		b.V.Root, b.V.Bridge = b.V.Bridge, b.V.Root
	}
	return b
}

// P5.3: what is put is taken, with noughts behind, too; unlike words have unlike bytes.
func TestPutThenTake(t *testing.T) {
	rnd := rand.New(rand.NewPCG(5, 3))
	none := 0
	for range 20000 {
		b := someWord(rnd)
		checkWord(t, b)
		checkTake(t, bytesOf(b)+strings.Repeat("\x00", rnd.IntN(30)), b, api.OK)
		other := spoilt(rnd, b)
		checkWord(t, other)
		if !mayBe(other) {
			none++
			continue
		}
		x, _ := bpdu.Put(b)
		y, _ := bpdu.Put(other)
		if (x == y) != (b == other) {
			t.Fatalf("%+v and %+v: %x and %x", b, other, x, y)
		}
	}
	if none < 2000 || none > 18000 {
		t.Errorf("%d may not be", none)
	}
}

// P5.3: whatever bytes are taken are, but for noughts behind, put as themselves; of those that are not, the error is told.
func TestTakeThenPut(t *testing.T) {
	rnd := rand.New(rand.NewPCG(3, 5))
	taken := 0
	for range 50000 {
		s := []byte(bytesOf(someWord(rnd)) + strings.Repeat("\x00", rnd.IntN(3)))
		for range rnd.IntN(3) {
			s[rnd.IntN(len(s))] ^= 1 << rnd.IntN(8)
		}
		got, e := bpdu.Take(string(s))
		switch e {
		case api.OK:
			taken++
			checkPut(t, got, string(s[:size]), api.OK)
		case api.ErrForm:
			checkTake(t, string(s), bpdu.Bpdu{}, api.ErrForm)
		default:
			t.Fatalf("Take(%x): %d", s, e)
		}
	}
	if taken < 20000 || taken > 45000 {
		t.Errorf("%d were taken", taken)
	}
}

// FuzzTake holds that all bytes are answered: those of a word by the word, all others by the error that they ask for.
func FuzzTake(f *testing.F) {
	for _, c := range some {
		f.Add(c.bytes)
		f.Add(c.bytes + "\x00")
		f.Add(c.bytes[1:])
	}
	f.Fuzz(func(t *testing.T, s string) {
		b, e := bpdu.Take(s)
		switch {
		case len(s) < size:
			checkTake(t, s, bpdu.Bpdu{}, api.ErrShort)
		case e != api.OK:
			checkTake(t, s, bpdu.Bpdu{}, api.ErrForm)
		case !mayBe(b) || bytesOf(b)+strings.Repeat("\x00", len(s)-size) != s:
			t.Errorf("Take(%x) = %+v", s, b)
		}
	})
}
