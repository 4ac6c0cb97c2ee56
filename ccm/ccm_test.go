package ccm_test

import (
	"encoding/binary"
	"math"
	"math/rand/v2"
	"slices"
	"strings"
	"testing"

	"viaduct/api"
	"viaduct/ccm"
	"viaduct/cfm"
	"viaduct/maid"
	"viaduct/tlv"
)

// size is how many bytes a fixed part has.
const size = 70

// Where the parts of a fixed part's bytes stand.
const (
	atMepid = 4
	atMaid  = 6
	atEnd   = 54
)

// names are the bytes of an association's names, noughts behind them.
func names(s string) string { return s + strings.Repeat("\x00", 48-len(s)) }

// line are the bytes of the names city and line.
var line = names("\x04\x04city\x02\x04line")

// noughts are so many of them.
func noughts(n int) string { return strings.Repeat("\x00", n) }

// some are checks that may be, and their messages' flags and fixed parts.
var some = []struct {
	name  string
	c     ccm.Check
	flags uint8
	fixed string
}{
	{
		"the chapter's",
		ccm.Check{Level: 3, Rdi: true, Interval: 4, Seq: 1, Mepid: 2, Maid: line},
		0x84, "\x00\x00\x00\x01\x00\x02" + line + noughts(16),
	},
	{
		"the least numbers",
		ccm.Check{Level: 0, Interval: 4, Seq: 0, Mepid: 1, Maid: names("\x01\x02\x01a")},
		0x04, "\x00\x00\x00\x00\x00\x01" + "\x01\x02\x01a" + noughts(44+16),
	},
	{
		"the greatest numbers",
		ccm.Check{Level: 7, Rdi: true, Interval: 5, Seq: math.MaxUint32, Mepid: 8191, Maid: line},
		0x85, "\xff\xff\xff\xff\x1f\xff" + line + noughts(16),
	},
	{
		"unlike bytes in each number",
		ccm.Check{Level: 5, Interval: 5, Seq: 0x01020304, Mepid: 0x0506, Maid: line},
		0x05, "\x01\x02\x03\x04\x05\x06" + line + noughts(16),
	},
	{
		"names of 44 bytes",
		ccm.Check{Level: 1, Rdi: true, Interval: 5, Seq: 9, Mepid: 256, Maid: "\x04\x16" + strings.Repeat("d", 22) + "\x02\x16" + strings.Repeat("n", 22)},
		0x85, "\x00\x00\x00\x09\x01\x00" + "\x04\x16" + strings.Repeat("d", 22) + "\x02\x16" + strings.Repeat("n", 22) + noughts(16),
	},
}

// noNames are texts that are none of names' 48 bytes.
var noNames = []string{
	"",
	"city",
	noughts(48),
	strings.Repeat("\xff", 48),
	line[:47],
	line[1:],
	line + "\x00",
	line + line,
	line + noughts(16),
	line[:47] + "x",
	names("\x01\x02\x00"),
	names("\x01\x02\x01\x1f"),
	names("\x01\x02\x01\x7f"),
	names("\x04\x00\x02\x01a"),
	names("\x04\x01d"),
	names("\x02\x01a"),
	"\x01\x02\x2d" + strings.Repeat("a", 45),
	strings.Repeat("a", 1<<16),
}

// same holds that two messages are alike.
func same(a, b cfm.Pdu) bool {
	return a.Level == b.Level && a.Op == b.Op && a.Flags == b.Flags && a.Fixed == b.Fixed && slices.Equal(a.Tlvs, b.Tlvs)
}

func checkPut(t *testing.T, c ccm.Check, want cfm.Pdu, err api.Errno) {
	t.Helper()
	if got, e := ccm.Put(c); !same(got, want) || e != err {
		t.Errorf("Put(%#v) = %#v, %d; want %#v, %d", c, got, e, want, err)
	}
}

func checkTake(t *testing.T, p cfm.Pdu, want ccm.Check, err api.Errno) {
	t.Helper()
	if got, e := ccm.Take(p); got != want || e != err {
		t.Errorf("Take(%#v) = %#v, %d; want %#v, %d", p, got, e, want, err)
	}
}

// isNames tells whether 48 bytes are those of names that may be.
func isNames(s string) bool {
	_, _, e := maid.Take(s)
	return e == api.OK
}

// mayBe tells it as the chapter does, a condition a line.
func mayBe(c ccm.Check) bool {
	is := c.Level <= 7
	is = is && (c.Interval == 4 || c.Interval == 5)
	is = is && c.Mepid >= 1
	is = is && c.Mepid <= 8191
	return is && isNames(c.Maid)
}

// messageOf is a check's message, may it be or not.
func messageOf(c ccm.Check) cfm.Pdu {
	b := binary.BigEndian.AppendUint32(nil, c.Seq)
	b = binary.BigEndian.AppendUint16(b, c.Mepid)
	b = append(b, c.Maid...)
	b = append(b, make([]byte, 16)...)
	p := cfm.Pdu{Level: c.Level, Op: 1, Flags: c.Interval, Fixed: string(b)}
	if c.Rdi {
		p.Flags += 128
	}
	return p
}

// checkCheck holds that a check of an interval below 8 is put, and its message is taken, just if it may be.
func checkCheck(t *testing.T, c ccm.Check) {
	t.Helper()
	if mayBe(c) {
		checkPut(t, c, messageOf(c), api.OK)
		checkTake(t, messageOf(c), c, api.OK)
		return
	}
	checkPut(t, c, cfm.Pdu{}, api.ErrArg)
	checkTake(t, messageOf(c), ccm.Check{}, api.ErrForm)
}

// P13.1, P13.2
func TestPutAndTake(t *testing.T) {
	for _, c := range some {
		t.Run(c.name, func(t *testing.T) {
			p := cfm.Pdu{Level: c.c.Level, Op: cfm.Ccm, Flags: c.flags, Fixed: c.fixed}
			if len(c.fixed) != size || !same(messageOf(c.c), p) {
				t.Fatal(len(c.fixed))
			}
			checkPut(t, c.c, p, api.OK)
			checkTake(t, p, c.c, api.OK)
		})
	}
}

// P13.1, P13.2: levels up to 7.
func TestLevels(t *testing.T) {
	for n := range 256 {
		checkCheck(t, ccm.Check{Level: uint8(n), Interval: 4, Mepid: 1, Maid: line})
		checkCheck(t, ccm.Check{Level: uint8(n), Rdi: true, Interval: 5, Seq: 7, Mepid: 8191, Maid: line})
	}
}

// P13.1: intervals are 4 and 5; another one is not as its lowest three bits are, nor a defect by its highest one.
func TestIntervals(t *testing.T) {
	for n := range 256 {
		for _, defect := range []bool{false, true} {
			c := ccm.Check{Level: 2, Rdi: defect, Interval: uint8(n), Seq: 3, Mepid: 4, Maid: line}
			if n == 4 || n == 5 {
				checkPut(t, c, messageOf(c), api.OK)
			} else {
				checkPut(t, c, cfm.Pdu{}, api.ErrArg)
			}
		}
	}
}

// P13.2: of the flags the lowest three bits are the interval, the highest one tells of a defect, the others play no part.
func TestTakeFlags(t *testing.T) {
	c := ccm.Check{Level: 2, Seq: 3, Mepid: 4, Maid: line}
	for n := range 256 {
		p := messageOf(c)
		p.Flags = uint8(n)
		want := c
		want.Rdi = n >= 128
		want.Interval = uint8(n % 8)
		if want.Interval == 4 || want.Interval == 5 {
			checkTake(t, p, want, api.OK)
		} else {
			checkTake(t, p, ccm.Check{}, api.ErrForm)
		}
	}
}

// P13.1, P13.2: all numbers of points; those from 1 to 8191 may be.
func TestMepids(t *testing.T) {
	for n := range 1 << 16 {
		checkCheck(t, ccm.Check{Level: 1, Interval: 4, Seq: 5, Mepid: uint16(n), Maid: line})
	}
	for _, c := range []struct {
		n   uint16
		err api.Errno
	}{{0, api.ErrArg}, {1, api.OK}, {8191, api.OK}, {8192, api.ErrArg}, {65535, api.ErrArg}} {
		if _, e := ccm.Put(ccm.Check{Interval: 4, Mepid: c.n, Maid: line}); e != c.err {
			t.Error(c.n, e)
		}
	}
}

// P13.1, P13.2: any number that counts on may be, with each of its bits.
func TestSeq(t *testing.T) {
	for bit := range 32 {
		checkCheck(t, ccm.Check{Level: 1, Interval: 4, Seq: 1 << bit, Mepid: 1, Maid: line})
		checkCheck(t, ccm.Check{Level: 1, Interval: 5, Seq: math.MaxUint32 - 1<<bit, Mepid: 1, Maid: line})
	}
}

// P13.1, P13.2: an association's bytes are names', or there is no such check.
func TestMaid(t *testing.T) {
	for _, s := range noNames {
		c := ccm.Check{Level: 1, Interval: 4, Seq: 5, Mepid: 6, Maid: s}
		if mayBe(c) {
			t.Fatalf("%q", s)
		}
		checkCheck(t, c)
	}
	for _, domain := range []string{"", "d", "~ ~", strings.Repeat("x", 20)} {
		for _, own := range []string{"a", "one/two", " ", strings.Repeat("y", 24)} {
			m, e := maid.Put(domain, own)
			if e != api.OK {
				t.Fatal(e)
			}
			checkCheck(t, ccm.Check{Level: 1, Interval: 4, Seq: 5, Mepid: 6, Maid: m})
		}
	}
}

// P13.1: the error is one and the same, however much is wrong; a zero check may not be.
func TestPutWrong(t *testing.T) {
	for _, c := range []ccm.Check{
		{},
		{Level: 8},
		{Level: 8, Rdi: true, Interval: 4, Seq: 1, Mepid: 1, Maid: line},
		{Level: 7, Interval: 3, Mepid: 1, Maid: line},
		{Level: 7, Interval: 6, Mepid: 1, Maid: line},
		{Level: 7, Interval: 132, Mepid: 1, Maid: line},
		{Level: 7, Interval: 12, Mepid: 1, Maid: line},
		{Level: 7, Interval: 4, Mepid: 0, Maid: line},
		{Level: 7, Interval: 4, Mepid: 8192, Maid: line},
		{Level: 7, Interval: 4, Mepid: 1},
		{Level: 255, Rdi: true, Interval: 255, Seq: math.MaxUint32, Mepid: 65535, Maid: "x"},
	} {
		checkPut(t, c, cfm.Pdu{}, api.ErrArg)
	}
}

// P13.2: no other operation's message is a check's.
func TestTakeOperations(t *testing.T) {
	for _, c := range some {
		p := messageOf(c.c)
		for n := range 256 {
			p.Op = uint8(n)
			if n == 1 {
				checkTake(t, p, c.c, api.OK)
			} else {
				checkTake(t, p, ccm.Check{}, api.ErrForm)
			}
		}
	}
	checkTake(t, cfm.Pdu{}, ccm.Check{}, api.ErrForm)
	checkTake(t, cfm.Pdu{Op: cfm.Ccm}, ccm.Check{}, api.ErrForm)
	checkTake(t, cfm.Pdu{Op: cfm.Ccm, Flags: 4}, ccm.Check{}, api.ErrForm)
}

// P13.2: a fixed part has 70 bytes, no fewer and no more, whatever they are.
func TestTakeFixedLengths(t *testing.T) {
	for _, c := range some {
		p := messageOf(c.c)
		for n := range size {
			p.Fixed = c.fixed[:n]
			checkTake(t, p, ccm.Check{}, api.ErrForm)
			p.Fixed = c.fixed[n+1:]
			checkTake(t, p, ccm.Check{}, api.ErrForm)
		}
		for _, behind := range []string{"\x00", "x", noughts(16), strings.Repeat("x", 185), strings.Repeat("x", 186), noughts(1 << 16), c.fixed} {
			p.Fixed = c.fixed + behind
			checkTake(t, p, ccm.Check{}, api.ErrForm)
			p.Fixed = behind + c.fixed
			checkTake(t, p, ccm.Check{}, api.ErrForm)
		}
	}
}

// P13.2: the last 16 bytes of the fixed part play no part, all others do.
func TestTakeEachByte(t *testing.T) {
	c := some[0].c
	for place := range size {
		for n := range 256 {
			p := messageOf(c)
			b := []byte(p.Fixed)
			b[place] = byte(n)
			p.Fixed = string(b)
			want := c
			switch {
			case place < atMepid:
				want.Seq = binary.BigEndian.Uint32(b)
			case place < atMaid:
				want.Mepid = binary.BigEndian.Uint16(b[atMepid:])
			case place < atEnd:
				want.Maid = string(b[atMaid:atEnd])
			}
			if mayBe(want) {
				checkTake(t, p, want, api.OK)
			} else {
				checkTake(t, p, ccm.Check{}, api.ErrForm)
			}
		}
	}
	p := messageOf(c)
	p.Fixed = p.Fixed[:atEnd] + "\xff\x00an answer of \x01"
	if len(p.Fixed) != size {
		t.Fatal(len(p.Fixed))
	}
	checkTake(t, p, c, api.OK)
}

// P13.2: things play no part, though they may not be put.
func TestTakeThings(t *testing.T) {
	for _, c := range some {
		for _, l := range [][]tlv.Tlv{
			{},
			{{Type: 1, Value: "a"}},
			{{Type: 2}, {Type: 2, Value: c.fixed}},
			{{Type: 0, Value: "a"}},
			{{Type: 255, Value: strings.Repeat("x", 1481)}},
			slices.Repeat([]tlv.Tlv{{Type: 3, Value: "ab"}}, 1000),
		} {
			p := messageOf(c.c)
			p.Tlvs = l
			before := slices.Clone(l)
			checkTake(t, p, c.c, api.OK)
			p.Op = cfm.Lbm
			checkTake(t, p, ccm.Check{}, api.ErrForm)
			if !slices.Equal(l, before) { // R3
				t.Errorf("%.60q", l)
			}
		}
	}
}

// P13.1: a message has no things, and what is written behind its list is nobody else's (R3).
func TestPutNoThings(t *testing.T) {
	for _, c := range some {
		p, _ := ccm.Put(c.c)
		if len(p.Tlvs) != 0 {
			t.Errorf("%.60q", p.Tlvs)
		}
		_ = append(p.Tlvs, tlv.Tlv{Type: 9, Value: "z"})
		checkPut(t, c.c, messageOf(c.c), api.OK)
	}
}

// P13.3
func TestTicks(t *testing.T) {
	for n := range 256 {
		want := 0
		switch n {
		case 4:
			want = 1
		case 5:
			want = 10
		}
		if got := ccm.Ticks(uint8(n)); got != want {
			t.Errorf("Ticks(%d) = %d; want %d", n, got, want)
		}
	}
}

// someCheck may be.
func someCheck(rnd *rand.Rand) ccm.Check {
	text := func(n int) string {
		b := make([]byte, n)
		for i := range b {
			b[i] = byte(32 + rnd.IntN(95))
		}
		return string(b)
	}
	m, _ := maid.Put(text(rnd.IntN(23)), text(1+rnd.IntN(22)))
	return ccm.Check{
		Level:    uint8(rnd.IntN(8)),
		Rdi:      rnd.IntN(2) == 0,
		Interval: uint8(4 + rnd.IntN(2)),
		Seq:      rnd.Uint32() >> rnd.IntN(32),
		Mepid:    uint16(1 + rnd.IntN(8191)>>rnd.IntN(13)),
		Maid:     m,
	}
}

// spoilt is a check of which one thing is another one, so that it may be or not.
func spoilt(rnd *rand.Rand, c ccm.Check) ccm.Check {
	switch rnd.IntN(6) {
	case 0:
		c.Level ^= 1 << rnd.IntN(8)
	case 1:
		c.Rdi = !c.Rdi
	case 2:
		c.Interval ^= 1 << rnd.IntN(3) // a higher bit would stand among the other flags
	case 3:
		c.Seq ^= 1 << rnd.IntN(32)
	case 4:
		c.Mepid ^= 1 << rnd.IntN(16)
	case 5:
		b := []byte(c.Maid)
		b[rnd.IntN(len(b))] ^= 1 << rnd.IntN(8)
		c.Maid = string(b)
	}
	return c
}

// P13.4: what is put is taken, as bytes too; unlike checks have unlike messages.
func TestPutThenTake(t *testing.T) {
	rnd := rand.New(rand.NewPCG(13, 4))
	none := 0
	for range 30000 {
		c := someCheck(rnd)
		checkCheck(t, c)
		checkBytes(t, c)
		other := spoilt(rnd, c)
		checkCheck(t, other)
		if !mayBe(other) {
			none++
			continue
		}
		p, _ := ccm.Put(c)
		q, _ := ccm.Put(other)
		if same(p, q) {
			t.Fatalf("%#v and %#v: %#v", c, other, p)
		}
	}
	if none < 3000 || none > 25000 {
		t.Errorf("%d may not be", none)
	}
}

// checkBytes holds of a check that may be that its message's bytes are taken as it.
func checkBytes(t *testing.T, c ccm.Check) {
	t.Helper()
	p, _ := ccm.Put(c)
	s, e := cfm.Put(p)
	if e != api.OK || len(s) != 4+size+1 {
		t.Fatalf("%#v: %x, %d", c, s, e)
	}
	p, e = cfm.Take(s + "behind")
	if e != api.OK {
		t.Fatalf("%x: %d", s, e)
	}
	checkTake(t, p, c, api.OK)
}

// checkMessage holds of any message that it is taken as the check that it tells of, and this is put as a message that is taken as the same; or is wrong. It answers which.
func checkMessage(t *testing.T, p cfm.Pdu) bool {
	t.Helper()
	var want ccm.Check
	if p.Op == 1 && len(p.Fixed) == size {
		b := []byte(p.Fixed)
		want = ccm.Check{
			Level:    p.Level,
			Rdi:      p.Flags >= 128,
			Interval: p.Flags % 8,
			Seq:      binary.BigEndian.Uint32(b),
			Mepid:    binary.BigEndian.Uint16(b[atMepid:]),
			Maid:     p.Fixed[atMaid:atEnd],
		}
	}
	if !mayBe(want) {
		checkTake(t, p, ccm.Check{}, api.ErrForm)
		return false
	}
	checkTake(t, p, want, api.OK)
	checkCheck(t, want)
	return true
}

// P13.4: what is taken is put as a message that is taken as the same.
func TestTakeThenPut(t *testing.T) {
	rnd := rand.New(rand.NewPCG(4, 13))
	taken := 0
	for range 50000 {
		p := messageOf(someCheck(rnd))
		b := []byte(p.Fixed)
		for range rnd.IntN(3) {
			b[rnd.IntN(len(b))] ^= 1 << rnd.IntN(8)
		}
		p.Fixed = string(b[rnd.IntN(20)/19:])
		p.Flags ^= uint8(rnd.IntN(16)) << 3
		switch rnd.IntN(20) {
		case 0:
			p.Level ^= 1 << rnd.IntN(8)
		case 1:
			p.Op ^= 1 << rnd.IntN(8)
		case 2:
			p.Flags ^= 1 << rnd.IntN(8)
		case 3:
			p.Tlvs = []tlv.Tlv{{Type: uint8(rnd.IntN(3)), Value: p.Fixed}}
		}
		if checkMessage(t, p) {
			taken++
		}
	}
	if taken < 10000 || taken > 45000 {
		t.Errorf("%d were taken", taken)
	}
}

// FuzzTake holds that all messages are answered.
func FuzzTake(f *testing.F) {
	for _, c := range some {
		f.Add(c.c.Level, uint8(1), c.flags, c.fixed, uint8(0), "")
		f.Add(c.c.Level, uint8(1), c.flags|0x78, c.fixed[:atEnd]+strings.Repeat("x", 16), uint8(1), "a")
		f.Add(c.c.Level, uint8(2), c.flags, c.fixed[1:], uint8(3), "a")
	}
	f.Fuzz(func(t *testing.T, level, op, flags uint8, fixed string, kind uint8, value string) {
		checkMessage(t, cfm.Pdu{Level: level, Op: op, Flags: flags, Fixed: fixed, Tlvs: []tlv.Tlv{{Type: kind, Value: value}}})
	})
}

// FuzzPut holds that all checks are answered, by their messages or by the error.
func FuzzPut(f *testing.F) {
	for _, c := range some {
		f.Add(c.c.Level, c.c.Rdi, c.c.Interval, c.c.Seq, c.c.Mepid, c.c.Maid)
		f.Add(c.c.Level+1, c.c.Rdi, c.c.Interval+1, c.c.Seq+1, c.c.Mepid+1, c.c.Maid[1:])
	}
	f.Fuzz(func(t *testing.T, level uint8, defect bool, interval uint8, seq uint32, mepid uint16, m string) {
		c := ccm.Check{Level: level, Rdi: defect, Interval: interval, Seq: seq, Mepid: mepid, Maid: m}
		if !mayBe(c) {
			checkPut(t, c, cfm.Pdu{}, api.ErrArg)
			return
		}
		checkCheck(t, c)
		checkBytes(t, c)
	})
}
