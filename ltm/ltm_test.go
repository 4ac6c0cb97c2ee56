package ltm_test

import (
	"encoding/binary"
	"fmt"
	"math"
	"math/rand/v2"
	"slices"
	"strings"
	"testing"

	"viaduct/api"
	"viaduct/cfm"
	"viaduct/ltm"
	"viaduct/tlv"
)

// How many bytes fixed parts have.
const (
	traceSize = 17
	replySize = 6
)

var (
	none   = api.Mac{}
	low    = api.Mac{0, 0, 0, 0, 0, 1}
	high   = api.Mac{1, 0, 0, 0, 0, 0}
	two    = api.Mac{2}
	four   = api.Mac{4}
	rising = api.Mac{1, 2, 3, 4, 5, 6}
	all    = api.Mac{255, 255, 255, 255, 255, 255}
)

// traces are some that may be, and their messages' fixed parts.
var traces = []struct {
	name  string
	t     ltm.Trace
	fixed string
}{
	{
		"the chapter's",
		ltm.Trace{Level: 1, Num: 9, Ttl: 64, Origin: two, Target: four},
		"\x00\x00\x00\x09\x40" + "\x02\x00\x00\x00\x00\x00" + "\x04\x00\x00\x00\x00\x00",
	},
	{
		"a zero one",
		ltm.Trace{},
		strings.Repeat("\x00", traceSize),
	},
	{
		"unlike bytes",
		ltm.Trace{Level: 5, Num: 0x11121314, Ttl: 0x15, Origin: rising, Target: api.Mac{7, 8, 9, 10, 11, 12}},
		"\x11\x12\x13\x14\x15\x01\x02\x03\x04\x05\x06\x07\x08\x09\x0a\x0b\x0c",
	},
	{
		"the greatest numbers",
		ltm.Trace{Level: 7, Num: math.MaxUint32, Ttl: 255, Origin: all, Target: all},
		strings.Repeat("\xff", traceSize),
	},
}

// replies are some that may be, and their messages.
var replies = []struct {
	name string
	r    ltm.Reply
	p    cfm.Pdu
}{
	{
		"a zero one",
		ltm.Reply{},
		cfm.Pdu{Op: 4, Fixed: "\x00\x00\x00\x00\x00\x02"},
	},
	{
		"sent on",
		ltm.Reply{Level: 1, Num: 9, Ttl: 63, Sent: true, In: two, Out: four},
		cfm.Pdu{Level: 1, Op: 4, Flags: 64, Fixed: "\x00\x00\x00\x09\x3f\x02", Tlvs: []tlv.Tlv{
			{Type: 5, Value: "\x01\x02\x00\x00\x00\x00\x00"},
			{Type: 6, Value: "\x01\x04\x00\x00\x00\x00\x00"},
		}},
	},
	{
		"the end",
		ltm.Reply{Level: 3, Num: 256, Ttl: 61, End: true, In: rising},
		cfm.Pdu{Level: 3, Op: 4, Flags: 32, Fixed: "\x00\x00\x01\x00\x3d\x01", Tlvs: []tlv.Tlv{
			{Type: 5, Value: "\x01\x01\x02\x03\x04\x05\x06"},
		}},
	},
	{
		"just a port by which it goes out",
		ltm.Reply{Level: 5, Num: 0x01020304, Ttl: 5, Out: low},
		cfm.Pdu{Level: 5, Op: 4, Fixed: "\x01\x02\x03\x04\x05\x02", Tlvs: []tlv.Tlv{
			{Type: 6, Value: "\x01\x00\x00\x00\x00\x00\x01"},
		}},
	},
	{
		"the end, sent on, the greatest numbers",
		ltm.Reply{Level: 7, Num: math.MaxUint32, Ttl: 255, Sent: true, End: true, In: all, Out: high},
		cfm.Pdu{Level: 7, Op: 4, Flags: 96, Fixed: "\xff\xff\xff\xff\xff\x01", Tlvs: []tlv.Tlv{
			{Type: 5, Value: "\x01\xff\xff\xff\xff\xff\xff"},
			{Type: 6, Value: "\x01\x01\x00\x00\x00\x00\x00"},
		}},
	},
}

// noPorts are values of things that tell of no port.
var noPorts = []string{
	"",
	"\x01",
	"\x01abcde",
	"\x01abcdefg",
	"abcdef",
	"\x00abcdef",
	"\x02abcdef",
	"\xffabcdef",
	"abcdef\x01",
	"\x01\x00\x00\x00\x00\x00\x00",
	"\x00\x00\x00\x00\x00\x00\x00",
	"\x01\x00\x00\x00\x00\x00",
	"\x01abcdef\x00",
	"\x01abcdef\x01abcdef",
	strings.Repeat("\x01", 70000),
}

// same holds that two messages are alike.
func same(a, b cfm.Pdu) bool {
	return a.Level == b.Level && a.Op == b.Op && a.Flags == b.Flags && a.Fixed == b.Fixed && slices.Equal(a.Tlvs, b.Tlvs)
}

// text tells of a message, though its values may be long.
func text(p cfm.Pdu) string {
	return fmt.Sprintf("level %d, operation %d, flags %d, %.200q, %.200q", p.Level, p.Op, p.Flags, p.Fixed, p.Tlvs)
}

func checkPut(t *testing.T, x ltm.Trace, want cfm.Pdu, err api.Errno) {
	t.Helper()
	if got, e := ltm.Put(x); !same(got, want) || e != err {
		t.Errorf("Put(%#v) = %#v, %d; want %#v, %d", x, got, e, want, err)
	}
}

func checkTake(t *testing.T, p cfm.Pdu, want ltm.Trace, err api.Errno) {
	t.Helper()
	if got, e := ltm.Take(p); got != want || e != err {
		t.Errorf("Take(%s) = %#v, %d; want %#v, %d", text(p), got, e, want, err)
	}
}

func checkPutReply(t *testing.T, x ltm.Reply, want cfm.Pdu, err api.Errno) {
	t.Helper()
	if got, e := ltm.PutReply(x); !same(got, want) || e != err {
		t.Errorf("PutReply(%#v) = %#v, %d; want %#v, %d", x, got, e, want, err)
	}
}

func checkTakeReply(t *testing.T, p cfm.Pdu, want ltm.Reply, err api.Errno) {
	t.Helper()
	if got, e := ltm.TakeReply(p); got != want || e != err {
		t.Errorf("TakeReply(%s) = %#v, %d; want %#v, %d", text(p), got, e, want, err)
	}
}

// traceMessage is a trace's message, may it be or not.
func traceMessage(x ltm.Trace) cfm.Pdu {
	b := binary.BigEndian.AppendUint32(nil, x.Num)
	b = append(b, x.Ttl)
	b = append(b, x.Origin[:]...)
	b = append(b, x.Target[:]...)
	return cfm.Pdu{Level: x.Level, Op: 5, Flags: 128, Fixed: string(b)}
}

// replyMessage is a reply's message, may it be or not.
func replyMessage(x ltm.Reply) cfm.Pdu {
	b := binary.BigEndian.AppendUint32(nil, x.Num)
	b = append(b, x.Ttl, 2)
	p := cfm.Pdu{Level: x.Level, Op: 4}
	if x.Sent {
		p.Flags += 64
	}
	if x.End {
		p.Flags += 32
		b[5] = 1
	}
	if x.In != none {
		p.Tlvs = append(p.Tlvs, tlv.Tlv{Type: 5, Value: "\x01" + string(x.In[:])})
	}
	if x.Out != none {
		p.Tlvs = append(p.Tlvs, tlv.Tlv{Type: 6, Value: "\x01" + string(x.Out[:])})
	}
	p.Fixed = string(b)
	return p
}

// checkTrace holds that a trace is put, and its message is taken, just if it may be.
func checkTrace(t *testing.T, x ltm.Trace) {
	t.Helper()
	if x.Level <= 7 {
		checkPut(t, x, traceMessage(x), api.OK)
	} else {
		checkPut(t, x, cfm.Pdu{}, api.ErrArg)
	}
	checkMessage(t, traceMessage(x))
}

// checkReply holds that a reply is put, and its message is taken, just if it may be.
func checkReply(t *testing.T, x ltm.Reply) {
	t.Helper()
	if x.Level <= 7 {
		checkPutReply(t, x, replyMessage(x), api.OK)
	} else {
		checkPutReply(t, x, cfm.Pdu{}, api.ErrArg)
	}
	checkMessage(t, replyMessage(x))
}

// traceOf is the trace whose message this is, as the chapter tells it, a condition a line.
func traceOf(p cfm.Pdu) (ltm.Trace, api.Errno) {
	if p.Level > 7 {
		return ltm.Trace{}, api.ErrArg
	}
	if p.Op != 5 || len(p.Fixed) != traceSize {
		return ltm.Trace{}, api.ErrForm
	}
	if p.Flags < 128 {
		return ltm.Trace{}, api.ErrForm
	}
	b := []byte(p.Fixed)
	return ltm.Trace{
		Level:  p.Level,
		Num:    binary.BigEndian.Uint32(b),
		Ttl:    b[4],
		Origin: api.Mac(b[5:11]),
		Target: api.Mac(b[11:]),
	}, api.OK
}

// portOf is the address that the first thing of a type tells, and whether it may.
func portOf(l []tlv.Tlv, kind uint8) (api.Mac, bool) {
	i := slices.IndexFunc(l, func(x tlv.Tlv) bool { return x.Type == kind })
	if i < 0 {
		return none, true
	}
	v := l[i].Value
	if len(v) != 7 || v[0] != 1 || v[1:] == strings.Repeat("\x00", 6) {
		return none, false
	}
	return api.Mac([]byte(v[1:])), true
}

// replyOf is the reply whose message this is, as the chapter tells it, a condition a line.
func replyOf(p cfm.Pdu) (ltm.Reply, api.Errno) {
	if p.Level > 7 {
		return ltm.Reply{}, api.ErrArg
	}
	if p.Op != 4 || len(p.Fixed) != replySize {
		return ltm.Reply{}, api.ErrForm
	}
	end := p.Flags/32%2 == 1
	if p.Fixed[5] != 1 && end || p.Fixed[5] != 2 && !end {
		return ltm.Reply{}, api.ErrForm
	}
	in, is := portOf(p.Tlvs, 5)
	out, also := portOf(p.Tlvs, 6)
	if !is || !also {
		return ltm.Reply{}, api.ErrForm
	}
	b := []byte(p.Fixed)
	return ltm.Reply{
		Level: p.Level,
		Num:   binary.BigEndian.Uint32(b),
		Ttl:   b[4],
		Sent:  p.Flags/64%2 == 1,
		End:   end,
		In:    in,
		Out:   out,
	}, api.OK
}

// checkMessage holds that any message is taken as the chapter says, and as one of both at most. It tells as which.
func checkMessage(t *testing.T, p cfm.Pdu) (isTrace, isReply bool) {
	t.Helper()
	x, e := traceOf(p)
	checkTake(t, p, x, e)
	r, f := replyOf(p)
	checkTakeReply(t, p, r, f)
	if e == api.OK && f == api.OK {
		t.Errorf("%#v is both", p)
	}
	return e == api.OK, f == api.OK
}

// P15.1, P15.2
func TestTraces(t *testing.T) {
	for _, c := range traces {
		t.Run(c.name, func(t *testing.T) {
			p := cfm.Pdu{Level: c.t.Level, Op: 5, Flags: 0x80, Fixed: c.fixed}
			if len(c.fixed) != traceSize || !same(traceMessage(c.t), p) {
				t.Fatal(traceMessage(c.t))
			}
			checkPut(t, c.t, p, api.OK)
			checkTake(t, p, c.t, api.OK)
			checkTakeReply(t, p, ltm.Reply{}, api.ErrForm)
		})
	}
}

// P15.1, P15.2
func TestReplies(t *testing.T) {
	for _, c := range replies {
		t.Run(c.name, func(t *testing.T) {
			if len(c.p.Fixed) != replySize || !same(replyMessage(c.r), c.p) {
				t.Fatal(replyMessage(c.r))
			}
			checkPutReply(t, c.r, c.p, api.OK)
			checkTakeReply(t, c.p, c.r, api.OK)
			checkTake(t, c.p, ltm.Trace{}, api.ErrForm)
		})
	}
}

// P15.1, P15.2: levels up to 7 may be.
func TestLevels(t *testing.T) {
	for n := range 256 {
		checkTrace(t, ltm.Trace{Level: uint8(n), Num: 9, Ttl: 64, Origin: two, Target: four})
		checkTrace(t, ltm.Trace{Level: uint8(n)})
		checkReply(t, ltm.Reply{Level: uint8(n), Num: 9, Ttl: 63, Sent: true, In: two, Out: four})
		checkReply(t, ltm.Reply{Level: uint8(n), End: true})
	}
	for _, level := range []uint8{8, 32, 255} {
		checkPut(t, ltm.Trace{Level: level, Num: 9, Ttl: 64, Origin: two, Target: four}, cfm.Pdu{}, api.ErrArg)
		checkPutReply(t, ltm.Reply{Level: level, Num: 9, Sent: true, In: two, Out: four}, cfm.Pdu{}, api.ErrArg)
	}
}

// P15.2, R5: the level's error is answered ahead of the form's.
func TestBothWrong(t *testing.T) {
	for _, p := range []cfm.Pdu{
		{Level: 8},
		{Level: 8, Op: cfm.Ltm, Fixed: "short"},
		{Level: 255, Op: cfm.Ltr, Fixed: "short"},
		{Level: 8, Op: cfm.Ltr, Flags: 32, Fixed: "\x00\x00\x00\x09\x3f\x02"},
		{Level: 8, Op: cfm.Ltr, Fixed: "\x00\x00\x00\x09\x3f\x02", Tlvs: []tlv.Tlv{{Type: 5}}},
	} {
		checkTake(t, p, ltm.Trace{}, api.ErrArg)
		checkTakeReply(t, p, ltm.Reply{}, api.ErrArg)
	}
}

// P15.1, P15.2: any number may be, with each of its bits, and any TTL.
func TestNumbers(t *testing.T) {
	for bit := range 32 {
		for _, n := range []uint32{1 << bit, math.MaxUint32 - 1<<bit} {
			checkTrace(t, ltm.Trace{Level: 1, Num: n, Ttl: 1, Origin: two, Target: four})
			checkReply(t, ltm.Reply{Level: 1, Num: n, Ttl: 1, In: two, Out: four})
		}
	}
	for n := range 256 {
		checkTrace(t, ltm.Trace{Level: 2, Num: 3, Ttl: uint8(n)})
		checkReply(t, ltm.Reply{Level: 2, Num: 3, Ttl: uint8(n)})
		checkReply(t, ltm.Reply{Level: 2, Num: 3, Ttl: uint8(n), Sent: true, End: true})
	}
}

// P15.1, P15.2: any addresses may be, a trace's those of 0 too, with each of their bits, those of groups too; of a reply's port at 0 nothing is told.
func TestAddresses(t *testing.T) {
	some := []api.Mac{none, low, high, two, four, rising, all}
	for bit := range 48 {
		var m api.Mac
		m[bit/8] = 1 << (bit % 8)
		some = append(some, m)
	}
	for _, a := range some {
		for _, b := range some {
			checkTrace(t, ltm.Trace{Level: 3, Num: 4, Ttl: 5, Origin: a, Target: b})
			checkReply(t, ltm.Reply{Level: 3, Num: 4, Ttl: 5, Sent: true, In: a, Out: b})
			checkReply(t, ltm.Reply{Level: 3, Num: 4, Ttl: 5, End: true, In: a, Out: b})
		}
	}
}

// P15.2, P15.3: just Ltm is a trace's operation, and just Ltr a reply's.
func TestOperations(t *testing.T) {
	for n := range 256 {
		for _, c := range traces {
			p := traceMessage(c.t)
			p.Op = uint8(n)
			if n == int(cfm.Ltm) {
				checkTake(t, p, c.t, api.OK)
			} else {
				checkTake(t, p, ltm.Trace{}, api.ErrForm)
			}
			checkTakeReply(t, p, ltm.Reply{}, api.ErrForm)
		}
		for _, c := range replies {
			p := c.p
			p.Op = uint8(n)
			if n == int(cfm.Ltr) {
				checkTakeReply(t, p, c.r, api.OK)
			} else {
				checkTakeReply(t, p, ltm.Reply{}, api.ErrForm)
			}
			checkTake(t, p, ltm.Trace{}, api.ErrForm)
		}
	}
}

// P15.2: a trace's message has the flag 128; others play no part.
func TestTraceFlags(t *testing.T) {
	for _, c := range traces {
		for n := range 256 {
			p := traceMessage(c.t)
			p.Flags = uint8(n)
			if n >= 128 {
				checkTake(t, p, c.t, api.OK)
			} else {
				checkTake(t, p, ltm.Trace{}, api.ErrForm)
			}
		}
	}
}

// P15.2: of a reply's flags 64 tells whether it was sent on, 32 whether it is the end, as the last byte has to say too; others play no part.
func TestReplyFlags(t *testing.T) {
	for n := range 256 {
		for last := range 256 {
			p := cfm.Pdu{Level: 4, Op: cfm.Ltr, Flags: uint8(n), Fixed: "\x00\x00\x00\x09\x3f" + string([]byte{byte(last)})}
			want := ltm.Reply{Level: 4, Num: 9, Ttl: 63, Sent: n&64 > 0, End: n&32 > 0}
			if n&32 > 0 && last == 1 || n&32 == 0 && last == 2 {
				checkTakeReply(t, p, want, api.OK)
			} else {
				checkTakeReply(t, p, ltm.Reply{}, api.ErrForm)
			}
		}
	}
}

// P15.2: fixed parts have 17 bytes of a trace, 6 of a reply, no fewer and no more.
func TestFixedLengths(t *testing.T) {
	for n := range 300 {
		for _, each := range []string{"\x00", "\x01", "\x02", "\xff"} {
			for _, flags := range []uint8{0, 32, 128, 160, 255} {
				p := cfm.Pdu{Level: 3, Op: cfm.Ltm, Flags: flags, Fixed: strings.Repeat(each, n)}
				if is, _ := checkMessage(t, p); is != (n == traceSize && flags >= 128) {
					t.Errorf("%d bytes, flags %d: %t", n, flags, is)
				}
				p.Op = cfm.Ltr
				if _, is := checkMessage(t, p); is && n != replySize {
					t.Errorf("%d bytes, flags %d: %t", n, flags, is)
				}
			}
		}
	}
	whole := traceMessage(traces[0].t)
	for _, fixed := range []string{"", whole.Fixed[:16], whole.Fixed[1:], whole.Fixed + "\x00", whole.Fixed + whole.Fixed} {
		p := whole
		p.Fixed = fixed
		checkTake(t, p, ltm.Trace{}, api.ErrForm)
	}
	for _, fixed := range []string{"", "\x00\x00\x00\x09\x02", "\x00\x00\x00\x09\x3f", "\x00\x00\x00\x09\x3f\x02\x00", "\x00\x00\x00\x09\x3f\x02\x02"} {
		checkTakeReply(t, cfm.Pdu{Op: cfm.Ltr, Fixed: fixed}, ltm.Reply{}, api.ErrForm)
	}
	checkTake(t, cfm.Pdu{}, ltm.Trace{}, api.ErrForm)
	checkTakeReply(t, cfm.Pdu{}, ltm.Reply{}, api.ErrForm)
}

// P15.2: things play no part in a trace, whatever they are.
func TestTraceThings(t *testing.T) {
	for _, c := range traces {
		for n := range 256 {
			for _, v := range []string{"", "\x01abcdef", "\x02abcdef", "\x01abcde"} {
				p := traceMessage(c.t)
				p.Tlvs = []tlv.Tlv{{Type: uint8(n), Value: v}, {Type: 5}}
				checkTake(t, p, c.t, api.OK)
			}
		}
	}
}

// withThings is the message of a reply that things are put to.
func withThings(l ...tlv.Tlv) cfm.Pdu {
	return cfm.Pdu{Level: 6, Op: cfm.Ltr, Flags: 64, Fixed: "\x00\x00\x00\x09\x3f\x02", Tlvs: l}
}

// withPorts is the reply that is taken from there.
func withPorts(in, out api.Mac) ltm.Reply {
	return ltm.Reply{Level: 6, Num: 9, Ttl: 63, Sent: true, In: in, Out: out}
}

// P15.2: things of the types 5 and 6, in whatever order, tell of the ports; others play no part, nor do later ones of these.
func TestReplyThings(t *testing.T) {
	long := strings.Repeat("x", 70000)
	first := api.Mac{'a', 'b', 'c', 'd', 'e', 'f'}
	for _, c := range []struct {
		name    string
		l       []tlv.Tlv
		in, out api.Mac
	}{
		{"none", nil, none, none},
		{"an empty list", []tlv.Tlv{}, none, none},
		{"both", []tlv.Tlv{{Type: 5, Value: "\x01abcdef"}, {Type: 6, Value: "\x01\x00\x00\x00\x00\x00\x01"}}, first, low},
		{"the other way round", []tlv.Tlv{{Type: 6, Value: "\x01\x00\x00\x00\x00\x00\x01"}, {Type: 5, Value: "\x01abcdef"}}, first, low},
		{"alike", []tlv.Tlv{{Type: 6, Value: "\x01abcdef"}, {Type: 5, Value: "\x01abcdef"}}, first, first},
		{"just 5", []tlv.Tlv{{Type: 5, Value: "\x01abcdef"}}, first, none},
		{"just 6", []tlv.Tlv{{Type: 6, Value: "\x01abcdef"}}, none, first},
		{"others", []tlv.Tlv{{Type: 4, Value: "\x01abcdef"}, {Type: 7, Value: "\x01abcdef"}, {Type: 8, Value: ""}}, none, none},
		{"among others", []tlv.Tlv{{Type: 4}, {Type: 0}, {Type: 5, Value: "\x01abcdef"}, {Type: 255, Value: long}}, first, none},
		{"the first of two", []tlv.Tlv{{Type: 5, Value: "\x01abcdef"}, {Type: 5, Value: "\x01ABCDEF"}}, first, none},
		{"the first of two, though the second is wrong", []tlv.Tlv{{Type: 5, Value: "\x01abcdef"}, {Type: 5}, {Type: 6, Value: "\x01abcdef"}, {Type: 6, Value: long}}, first, first},
		{"many", append(slices.Repeat([]tlv.Tlv{{Type: 2, Value: "a"}}, 1000), tlv.Tlv{Type: 6, Value: "\x01abcdef"}), none, first},
	} {
		t.Run(c.name, func(t *testing.T) {
			before := slices.Clone(c.l)
			checkTakeReply(t, withThings(c.l...), withPorts(c.in, c.out), api.OK)
			checkMessage(t, withThings(c.l...))
			if !slices.Equal(c.l, before) { // R3
				t.Errorf("%.60q", c.l)
			}
		})
	}
}

// P15.2: a thing of the types 5 and 6 has 7 bytes, of which the first one is 1, and tells of no address 0.
func TestReplyWrongThings(t *testing.T) {
	for _, v := range noPorts {
		for _, kind := range []uint8{5, 6} {
			wrong := tlv.Tlv{Type: kind, Value: v}
			right := tlv.Tlv{Type: kind, Value: "\x01abcdef"}
			other := tlv.Tlv{Type: 11 - kind, Value: "\x01abcdef"}
			checkTakeReply(t, withThings(wrong), ltm.Reply{}, api.ErrForm)
			checkTakeReply(t, withThings(wrong, other), ltm.Reply{}, api.ErrForm)
			checkTakeReply(t, withThings(other, wrong), ltm.Reply{}, api.ErrForm)
			checkTakeReply(t, withThings(wrong, right), ltm.Reply{}, api.ErrForm)
			if _, is := checkMessage(t, withThings(right, wrong)); !is {
				t.Errorf("%d %.60q behind one that is right", kind, v)
			}
		}
	}
	for n := range 256 {
		p := withThings(tlv.Tlv{Type: 5, Value: string([]byte{byte(n)}) + "abcdef"})
		if _, is := checkMessage(t, p); is != (n == 1) {
			t.Errorf("a thing that begins with %d: %t", n, is)
		}
		p = withThings(tlv.Tlv{Type: uint8(n), Value: "abc"})
		if _, is := checkMessage(t, p); is != (n != 5 && n != 6) {
			t.Errorf("a thing of the type %d: %t", n, is)
		}
	}
	for n := range 300 {
		for kind := range uint8(8) {
			checkMessage(t, withThings(tlv.Tlv{Type: kind, Value: strings.Repeat("\x01", n)}))
		}
	}
}

// P15.1, R3: a message's things are nobody else's, with the room behind them.
func TestPutOwnThings(t *testing.T) {
	for _, c := range replies {
		p, _ := ltm.PutReply(c.r)
		room := p.Tlvs[:cap(p.Tlvs)]
		for i := range room {
			room[i] = tlv.Tlv{Type: 9, Value: "z"}
		}
		checkPutReply(t, c.r, c.p, api.OK)
	}
	for _, c := range traces {
		p, _ := ltm.Put(c.t)
		_ = append(p.Tlvs, tlv.Tlv{Type: 8, Value: "y"})
		checkPut(t, c.t, traceMessage(c.t), api.OK)
	}
}

// someMac is any address, or 0, or one of few.
func someMac(rnd *rand.Rand) api.Mac {
	var m api.Mac
	for i := range m[:rnd.IntN(7)] {
		m[i] = byte(rnd.IntN(256))
	}
	return m
}

// someTrace may be or not.
func someTrace(rnd *rand.Rand) ltm.Trace {
	return ltm.Trace{
		Level:  uint8(rnd.IntN(10)),
		Num:    rnd.Uint32() >> rnd.IntN(32),
		Ttl:    uint8(rnd.IntN(256)),
		Origin: someMac(rnd),
		Target: someMac(rnd),
	}
}

// someReply may be or not.
func someReply(rnd *rand.Rand) ltm.Reply {
	return ltm.Reply{
		Level: uint8(rnd.IntN(10)),
		Num:   rnd.Uint32() >> rnd.IntN(32),
		Ttl:   uint8(rnd.IntN(256)),
		Sent:  rnd.IntN(2) == 0,
		End:   rnd.IntN(2) == 0,
		In:    someMac(rnd),
		Out:   someMac(rnd),
	}
}

// throughBytes is the message that a message's bytes are taken as, whatever is behind them.
func throughBytes(t *testing.T, p cfm.Pdu) cfm.Pdu {
	t.Helper()
	s, e := cfm.Put(p)
	if e != api.OK {
		t.Fatalf("%#v: %d", p, e)
	}
	q, e := cfm.Take(s + "behind")
	if e != api.OK || !same(p, q) {
		t.Fatalf("%x: %#v, %d", s, q, e)
	}
	return q
}

// checkTraceBack holds that a trace that may be is taken as itself, as bytes too, and as no reply.
func checkTraceBack(t *testing.T, x ltm.Trace) {
	t.Helper()
	p, _ := ltm.Put(x)
	for _, q := range []cfm.Pdu{p, throughBytes(t, p)} {
		checkTake(t, q, x, api.OK)
		checkTakeReply(t, q, ltm.Reply{}, api.ErrForm)
	}
}

// checkReplyBack holds that a reply that may be is taken as itself, as bytes too, and as no trace.
func checkReplyBack(t *testing.T, x ltm.Reply) {
	t.Helper()
	p, _ := ltm.PutReply(x)
	for _, q := range []cfm.Pdu{p, throughBytes(t, p)} {
		checkTakeReply(t, q, x, api.OK)
		checkTake(t, q, ltm.Trace{}, api.ErrForm)
	}
}

// P15.3, and P15.1 with P15.2: what is put is taken.
func TestBack(t *testing.T) {
	for _, c := range traces {
		checkTraceBack(t, c.t)
	}
	for _, c := range replies {
		checkReplyBack(t, c.r)
	}
	rnd := rand.New(rand.NewPCG(15, 3))
	for range 20000 {
		x := someTrace(rnd)
		checkTrace(t, x)
		if x.Level <= 7 {
			checkTraceBack(t, x)
		}
		r := someReply(rnd)
		checkReply(t, r)
		if r.Level <= 7 {
			checkReplyBack(t, r)
		}
	}
}

// bent is a message of a trace or a reply, of which parts are made other ones at random.
func bent(rnd *rand.Rand) cfm.Pdu {
	p := replyMessage(someReply(rnd))
	if rnd.IntN(3) == 0 {
		p = traceMessage(someTrace(rnd))
	}
	values := append([]string{"\x01abcdef", "\x01ABCDEF"}, noPorts[:12]...)
	for range rnd.IntN(4) {
		switch rnd.IntN(6) {
		case 0:
			p.Flags = uint8(rnd.IntN(256))
		case 1:
			p.Fixed = p.Fixed[:rnd.IntN(len(p.Fixed)+1)] + "\x01\x02"[rnd.IntN(3):]
		case 2:
			p.Op = uint8(rnd.IntN(7))
		default:
			x := tlv.Tlv{Type: uint8(4 + rnd.IntN(4)), Value: values[rnd.IntN(len(values))]}
			p.Tlvs = slices.Insert(p.Tlvs, rnd.IntN(len(p.Tlvs)+1), x)
		}
	}
	return p
}

// P15.2: messages of all kinds.
func TestMessages(t *testing.T) {
	rnd := rand.New(rand.NewPCG(3, 15))
	asked, answered := 0, 0
	for range 60000 {
		p := bent(rnd)
		before := slices.Clone(p.Tlvs)
		isTrace, isReply := checkMessage(t, p)
		if isTrace {
			asked++
		}
		if isReply {
			answered++
		}
		if !slices.Equal(p.Tlvs, before) { // R3
			t.Fatalf("%q, before %q", p.Tlvs, before)
		}
	}
	if asked < 5000 || answered < 10000 || asked+answered > 50000 {
		t.Errorf("%d were traces, %d replies", asked, answered)
	}
}

// FuzzTake holds that all messages are taken, as traces, as replies, or refused.
func FuzzTake(f *testing.F) {
	for _, c := range traces {
		p := traceMessage(c.t)
		f.Add(p.Level, p.Op, p.Flags, p.Fixed, uint8(5), "\x01abcdef", uint8(6), "")
		f.Add(p.Level, p.Op, p.Flags^255, p.Fixed, uint8(5), "", uint8(6), "\x01abcdef")
	}
	for _, c := range replies {
		f.Add(c.p.Level, c.p.Op, c.p.Flags, c.p.Fixed, uint8(5), "\x01abcdef", uint8(6), "\x01abcdef")
		f.Add(c.p.Level, c.p.Op, c.p.Flags^32, c.p.Fixed[1:], uint8(6), "\x01\x00\x00\x00\x00\x00\x00", uint8(6), "")
	}
	f.Fuzz(func(t *testing.T, level, op, flags uint8, fixed string, kind uint8, value string, second uint8, other string) {
		checkMessage(t, cfm.Pdu{Level: level, Op: op, Flags: flags, Fixed: fixed, Tlvs: []tlv.Tlv{{Type: kind, Value: value}, {Type: second, Value: other}}})
	})
}

// FuzzPut holds that all traces and replies are answered, by their messages or by an error.
func FuzzPut(f *testing.F) {
	f.Add(uint8(1), uint32(9), uint8(64), true, false, uint64(1), uint64(0))
	f.Add(uint8(8), uint32(0), uint8(0), false, true, uint64(0), uint64(1)<<48)
	f.Fuzz(func(t *testing.T, level uint8, num uint32, ttl uint8, sent, end bool, one, other uint64) {
		a := api.Mac(binary.BigEndian.AppendUint64(nil, one)[2:])
		b := api.Mac(binary.BigEndian.AppendUint64(nil, other)[2:])
		x := ltm.Trace{Level: level, Num: num, Ttl: ttl, Origin: a, Target: b}
		r := ltm.Reply{Level: level, Num: num, Ttl: ttl, Sent: sent, End: end, In: a, Out: b}
		checkTrace(t, x)
		checkReply(t, r)
		if level <= 7 {
			checkTraceBack(t, x)
			checkReplyBack(t, r)
		}
	})
}
