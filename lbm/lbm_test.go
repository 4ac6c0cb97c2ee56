package lbm_test

import (
	"encoding/binary"
	"math"
	"math/rand/v2"
	"slices"
	"strings"
	"testing"

	"viaduct/api"
	"viaduct/cfm"
	"viaduct/lbm"
	"viaduct/tlv"
)

// full are as many data as may be.
var full = strings.Repeat("0123456789abcde\xff", 4)

// some are loopbacks that may be, and their messages.
var some = []struct {
	name string
	l    lbm.Loop
	p    cfm.Pdu
}{
	{
		"the chapter's",
		lbm.Loop{Level: 2, Num: 7, Data: "ab"},
		cfm.Pdu{Level: 2, Op: 3, Fixed: "\x00\x00\x00\x07", Tlvs: []tlv.Tlv{{Type: 3, Value: "ab"}}},
	},
	{
		"a zero one",
		lbm.Loop{},
		cfm.Pdu{Level: 0, Op: 3, Fixed: "\x00\x00\x00\x00"},
	},
	{
		"a reply without data",
		lbm.Loop{Level: 4, Reply: true, Num: 256},
		cfm.Pdu{Level: 4, Op: 2, Fixed: "\x00\x00\x01\x00"},
	},
	{
		"unlike bytes in a number",
		lbm.Loop{Level: 5, Reply: true, Num: 0x01020304, Data: "\x00"},
		cfm.Pdu{Level: 5, Op: 2, Fixed: "\x01\x02\x03\x04", Tlvs: []tlv.Tlv{{Type: 3, Value: "\x00"}}},
	},
	{
		"the greatest numbers, all data",
		lbm.Loop{Level: 7, Num: math.MaxUint32, Data: full},
		cfm.Pdu{Level: 7, Op: 3, Fixed: "\xff\xff\xff\xff", Tlvs: []tlv.Tlv{{Type: 3, Value: full}}},
	},
	{
		"a reply with all data",
		lbm.Loop{Level: 1, Reply: true, Num: 1 << 31, Data: full},
		cfm.Pdu{Level: 1, Op: 2, Fixed: "\x80\x00\x00\x00", Tlvs: []tlv.Tlv{{Type: 3, Value: full}}},
	},
}

// same holds that two messages are alike.
func same(a, b cfm.Pdu) bool {
	return a.Level == b.Level && a.Op == b.Op && a.Flags == b.Flags && a.Fixed == b.Fixed && slices.Equal(a.Tlvs, b.Tlvs)
}

func checkPut(t *testing.T, l lbm.Loop, want cfm.Pdu, err api.Errno) {
	t.Helper()
	if got, e := lbm.Put(l); !same(got, want) || e != err {
		t.Errorf("Put(%#v) = %#v, %d; want %#v, %d", l, got, e, want, err)
	}
}

func checkTake(t *testing.T, p cfm.Pdu, want lbm.Loop, err api.Errno) {
	t.Helper()
	if got, e := lbm.Take(p); got != want || e != err {
		t.Errorf("Take(%#v) = %#v, %d; want %#v, %d", p, got, e, want, err)
	}
}

func checkAnswer(t *testing.T, p cfm.Pdu, want cfm.Pdu, err api.Errno) {
	t.Helper()
	if got, e := lbm.Answer(p); !same(got, want) || e != err {
		t.Errorf("Answer(%#v) = %#v, %d; want %#v, %d", p, got, e, want, err)
	}
}

// wrong is what is wrong with a loopback, as the chapter tells it, or OK.
func wrong(l lbm.Loop) api.Errno {
	if l.Level > 7 {
		return api.ErrArg
	}
	if len(l.Data) > 64 {
		return api.ErrLong
	}
	return api.OK
}

// messageOf is a loopback's message, may it be or not.
func messageOf(l lbm.Loop) cfm.Pdu {
	p := cfm.Pdu{Level: l.Level, Op: 3, Fixed: string(binary.BigEndian.AppendUint32(nil, l.Num))}
	if l.Reply {
		p.Op = 2
	}
	if len(l.Data) > 0 {
		p.Tlvs = append(p.Tlvs, tlv.Tlv{Type: 3, Value: l.Data})
	}
	return p
}

// checkLoop holds that a loopback is put just if it may be, and that its message is taken and answered.
func checkLoop(t *testing.T, l lbm.Loop) {
	t.Helper()
	p := messageOf(l)
	if e := wrong(l); e == api.OK {
		checkPut(t, l, p, api.OK)
	} else {
		checkPut(t, l, cfm.Pdu{}, e)
	}
	checkMessage(t, p)
}

// checkMessage holds that any message is taken and answered as the chapter says. It tells whether it is a loopback's.
func checkMessage(t *testing.T, p cfm.Pdu) bool {
	t.Helper()
	if p.Op != 2 && p.Op != 3 || len(p.Fixed) != 4 {
		checkTake(t, p, lbm.Loop{}, api.ErrForm)
		checkAnswer(t, p, cfm.Pdu{}, api.ErrForm)
		return false
	}
	want := lbm.Loop{Level: p.Level, Reply: p.Op == 2, Num: binary.BigEndian.Uint32([]byte(p.Fixed))}
	if i := slices.IndexFunc(p.Tlvs, func(x tlv.Tlv) bool { return x.Type == 3 }); i >= 0 {
		want.Data = p.Tlvs[i].Value
	}
	checkTake(t, p, want, api.OK)
	if p.Op == 2 {
		checkAnswer(t, p, cfm.Pdu{}, api.ErrForm)
		return true
	}
	back := p
	back.Op = 2
	checkAnswer(t, p, back, api.OK)
	want.Reply = true
	checkTake(t, back, want, api.OK)
	return true
}

// P14.1, P14.2
func TestPutAndTake(t *testing.T) {
	for _, c := range some {
		t.Run(c.name, func(t *testing.T) {
			if !same(messageOf(c.l), c.p) {
				t.Fatal(messageOf(c.l))
			}
			checkPut(t, c.l, c.p, api.OK)
			checkTake(t, c.p, c.l, api.OK)
		})
	}
}

// P14.1: levels up to 7 may be.
func TestPutLevels(t *testing.T) {
	for n := range 256 {
		for _, reply := range []bool{false, true} {
			checkLoop(t, lbm.Loop{Level: uint8(n), Reply: reply, Num: 7, Data: "ab"})
			checkLoop(t, lbm.Loop{Level: uint8(n), Reply: reply})
		}
	}
	checkPut(t, lbm.Loop{Level: 8, Num: 7, Data: "ab"}, cfm.Pdu{}, api.ErrArg)
	checkPut(t, lbm.Loop{Level: 255}, cfm.Pdu{}, api.ErrArg)
}

// P14.1: data of up to 64 bytes may be, whatever they are.
func TestPutData(t *testing.T) {
	for n := range 300 {
		for _, reply := range []bool{false, true} {
			checkLoop(t, lbm.Loop{Level: 7, Reply: reply, Num: 1, Data: strings.Repeat("x", n)})
			checkLoop(t, lbm.Loop{Level: 7, Reply: reply, Num: 1, Data: strings.Repeat("\x00", n)})
			checkLoop(t, lbm.Loop{Level: 7, Reply: reply, Num: 1, Data: strings.Repeat("\xff", n)})
		}
	}
	for n := range 256 {
		checkLoop(t, lbm.Loop{Num: 1, Data: string([]byte{byte(n)})})
		checkLoop(t, lbm.Loop{Num: 1, Data: string([]byte{byte(n), 0, byte(n)})})
	}
	checkPut(t, lbm.Loop{Data: full + "x"}, cfm.Pdu{}, api.ErrLong)
	checkPut(t, lbm.Loop{Reply: true, Data: strings.Repeat("x", 1<<16)}, cfm.Pdu{}, api.ErrLong)
	checkPut(t, lbm.Loop{Data: strings.Repeat("é", 33)}, cfm.Pdu{}, api.ErrLong) // bytes, not letters
}

// P14.1: of both errors the level's is answered.
func TestPutBothWrong(t *testing.T) {
	checkPut(t, lbm.Loop{Level: 8, Data: full + "x"}, cfm.Pdu{}, api.ErrArg)
	checkPut(t, lbm.Loop{Level: 255, Reply: true, Num: 9, Data: strings.Repeat("x", 1<<16)}, cfm.Pdu{}, api.ErrArg)
}

// P14.1, P14.2: any number may be, with each of its bits.
func TestNumbers(t *testing.T) {
	for bit := range 32 {
		checkLoop(t, lbm.Loop{Level: 1, Num: 1 << bit, Data: "ab"})
		checkLoop(t, lbm.Loop{Level: 1, Reply: true, Num: math.MaxUint32 - 1<<bit})
	}
}

// P14.2, P14.3: the operation Lbm is a question's, Lbr a reply's, and no other one a loopback's; just a question is answered.
func TestOperations(t *testing.T) {
	for _, c := range some {
		for n := range 256 {
			p := c.p
			p.Op = uint8(n)
			want, taken, answered := c.l, api.OK, api.ErrForm
			var back cfm.Pdu
			switch p.Op {
			case cfm.Lbm:
				want.Reply = false
				back, answered = p, api.OK
				back.Op = cfm.Lbr
			case cfm.Lbr:
				want.Reply = true
			default:
				want, taken = lbm.Loop{}, api.ErrForm
			}
			checkTake(t, p, want, taken)
			checkAnswer(t, p, back, answered)
		}
	}
}

// P14.2, P14.3: flags play no part, and stay in the answer.
func TestFlags(t *testing.T) {
	for n := range 256 {
		p := cfm.Pdu{Level: 2, Op: cfm.Lbm, Flags: uint8(n), Fixed: "\x00\x00\x00\x07", Tlvs: []tlv.Tlv{{Type: 3, Value: "ab"}}}
		checkTake(t, p, lbm.Loop{Level: 2, Num: 7, Data: "ab"}, api.OK)
		back := p
		back.Op = cfm.Lbr
		checkAnswer(t, p, back, api.OK)
		checkTake(t, back, lbm.Loop{Level: 2, Reply: true, Num: 7, Data: "ab"}, api.OK)
	}
}

// P14.2, P14.3: a fixed part has 4 bytes, no fewer and no more, whatever they are.
func TestFixedLengths(t *testing.T) {
	for _, op := range []uint8{cfm.Lbm, cfm.Lbr} {
		for n := range 300 {
			for _, each := range []string{"\x00", "x", "\xff"} {
				p := cfm.Pdu{Level: 3, Op: op, Flags: 9, Fixed: strings.Repeat(each, n), Tlvs: []tlv.Tlv{{Type: 3, Value: "ab"}}}
				if is := checkMessage(t, p); is != (n == 4) {
					t.Errorf("%d bytes: %t", n, is)
				}
			}
		}
	}
	checkTake(t, cfm.Pdu{Op: cfm.Lbm}, lbm.Loop{}, api.ErrForm)
	checkTake(t, cfm.Pdu{Op: cfm.Lbr, Fixed: "abc"}, lbm.Loop{}, api.ErrForm)
	checkTake(t, cfm.Pdu{Op: cfm.Lbm, Fixed: "abcde"}, lbm.Loop{}, api.ErrForm)
	checkTake(t, cfm.Pdu{}, lbm.Loop{}, api.ErrForm)
	checkAnswer(t, cfm.Pdu{Op: cfm.Lbm, Fixed: "abc"}, cfm.Pdu{}, api.ErrForm)
	checkAnswer(t, cfm.Pdu{Op: cfm.Lbm, Fixed: "abcde"}, cfm.Pdu{}, api.ErrForm)
	checkAnswer(t, cfm.Pdu{}, cfm.Pdu{}, api.ErrForm)
}

// P14.2: the data are the first thing's of the type 3, however long; other things play no part.
func TestTakeThings(t *testing.T) {
	long := strings.Repeat("x", 70000)
	for _, c := range []struct {
		name string
		l    []tlv.Tlv
		data string
	}{
		{"none", nil, ""},
		{"an empty list", []tlv.Tlv{}, ""},
		{"no thing of the type", []tlv.Tlv{{Type: 1, Value: "a"}, {Type: 4, Value: "b"}, {Type: 2, Value: "c"}}, ""},
		{"behind others", []tlv.Tlv{{Type: 1, Value: "a"}, {Type: 3, Value: "b"}}, "b"},
		{"the first of two", []tlv.Tlv{{Type: 3, Value: "y"}, {Type: 3, Value: "z"}}, "y"},
		{"the first of two, though empty", []tlv.Tlv{{Type: 3}, {Type: 3, Value: "z"}}, ""},
		{"empty", []tlv.Tlv{{Type: 3}}, ""},
		{"of 65 bytes", []tlv.Tlv{{Type: 3, Value: full + "x"}}, full + "x"},
		{"longer than a thing may be", []tlv.Tlv{{Type: 3, Value: long}}, long},
		{"things that may not be", []tlv.Tlv{{Type: 0, Value: "a"}, {Type: 255, Value: long}, {Type: 3, Value: "b"}}, "b"},
		{"many", append(slices.Repeat([]tlv.Tlv{{Type: 2, Value: "a"}}, 1000), tlv.Tlv{Type: 3, Value: "b"}), "b"},
	} {
		t.Run(c.name, func(t *testing.T) {
			before := slices.Clone(c.l)
			p := cfm.Pdu{Level: 6, Op: cfm.Lbm, Fixed: "abcd", Tlvs: c.l}
			checkTake(t, p, lbm.Loop{Level: 6, Num: 0x61626364, Data: c.data}, api.OK)
			back := cfm.Pdu{Level: 6, Op: cfm.Lbr, Fixed: "abcd", Tlvs: before}
			checkAnswer(t, p, back, api.OK)
			checkTake(t, back, lbm.Loop{Level: 6, Reply: true, Num: 0x61626364, Data: c.data}, api.OK)
			if !slices.Equal(c.l, before) { // R3
				t.Errorf("%.60q", c.l)
			}
		})
	}
}

// P14.2: things of all types.
func TestTakeTypes(t *testing.T) {
	for n := range 256 {
		p := cfm.Pdu{Op: cfm.Lbr, Fixed: "\x00\x00\x00\x01", Tlvs: []tlv.Tlv{{Type: uint8(n), Value: "a"}}}
		want := lbm.Loop{Reply: true, Num: 1}
		if n == 3 {
			want.Data = "a"
		}
		checkTake(t, p, want, api.OK)
	}
}

// P14.2, P14.3: nothing but the operation and the fixed part tells whether a message is a loopback's.
func TestLevelsTaken(t *testing.T) {
	for n := range 256 {
		p := cfm.Pdu{Level: uint8(n), Op: cfm.Lbm, Fixed: "\x00\x00\x00\x07"}
		checkTake(t, p, lbm.Loop{Level: uint8(n), Num: 7}, api.OK)
		back := p
		back.Op = cfm.Lbr
		checkAnswer(t, p, back, api.OK)
	}
}

// P14.3, R3: an answer's things are copies, with the room behind them; the question's stay.
func TestAnswerCopies(t *testing.T) {
	room := []tlv.Tlv{{Type: 1, Value: "a"}, {Type: 3, Value: "b"}, {Type: 9, Value: "behind"}, {Type: 8, Value: "more"}}
	before := slices.Clone(room)
	q := cfm.Pdu{Level: 1, Op: cfm.Lbm, Flags: 9, Fixed: "abcd", Tlvs: room[:2]}
	a, _ := lbm.Answer(q)
	b, _ := lbm.Answer(q)
	a.Tlvs[0] = tlv.Tlv{Type: 7, Value: "z"}
	for i := range a.Tlvs[:cap(a.Tlvs)] {
		a.Tlvs[:cap(a.Tlvs)][i].Value = "over"
	}
	_ = append(a.Tlvs, tlv.Tlv{Type: 6, Value: "y"})
	if !slices.Equal(room, before) {
		t.Errorf("the question's things: %q", room)
	}
	if !slices.Equal(b.Tlvs, before[:2]) {
		t.Errorf("another answer's things: %q", b.Tlvs)
	}
	room[1].Value = "c"
	if !slices.Equal(b.Tlvs, before[:2]) {
		t.Errorf("an answer's things: %q", b.Tlvs)
	}

	none, _ := lbm.Answer(cfm.Pdu{Op: cfm.Lbm, Fixed: "abcd", Tlvs: before[:0]})
	_ = append(none.Tlvs, tlv.Tlv{Type: 5, Value: "x"})
	if before[0] != (tlv.Tlv{Type: 1, Value: "a"}) || len(none.Tlvs) != 0 {
		t.Errorf("%q, %q", before, none.Tlvs)
	}
}

// P14.1, R3: a message's things are nobody else's.
func TestPutOwnThings(t *testing.T) {
	for _, c := range some {
		p, _ := lbm.Put(c.l)
		for i := range p.Tlvs {
			p.Tlvs[i] = tlv.Tlv{Type: 9, Value: "z"}
		}
		_ = append(p.Tlvs, tlv.Tlv{Type: 8, Value: "y"})
		checkPut(t, c.l, c.p, api.OK)
	}
}

// someLoop may be or not.
func someLoop(rnd *rand.Rand) lbm.Loop {
	data := make([]byte, rnd.IntN(80))
	for i := range data {
		data[i] = byte(rnd.IntN(256))
	}
	return lbm.Loop{
		Level: uint8(rnd.IntN(10)),
		Reply: rnd.IntN(2) == 0,
		Num:   rnd.Uint32() >> rnd.IntN(32),
		Data:  string(data[:len(data)>>rnd.IntN(3)]),
	}
}

// checkBytes holds of a loopback that may be that its message's bytes are taken as it.
func checkBytes(t *testing.T, l lbm.Loop) {
	t.Helper()
	p, _ := lbm.Put(l)
	s, e := cfm.Put(p)
	if e != api.OK {
		t.Fatalf("%#v: %d", l, e)
	}
	p, e = cfm.Take(s + "behind")
	if e != api.OK {
		t.Fatalf("%x: %d", s, e)
	}
	checkTake(t, p, l, api.OK)
}

// checkBack holds that a question that may be is answered by a reply of the same level, number and data, as bytes too; and a reply is not.
func checkBack(t *testing.T, l lbm.Loop) {
	t.Helper()
	q, _ := lbm.Put(l)
	if l.Reply {
		checkAnswer(t, q, cfm.Pdu{}, api.ErrForm)
		return
	}
	a, e := lbm.Answer(q)
	if e != api.OK {
		t.Fatalf("%#v: %d", l, e)
	}
	back := lbm.Loop{Level: l.Level, Reply: true, Num: l.Num, Data: l.Data}
	checkTake(t, a, back, api.OK)
	checkPut(t, back, a, api.OK)
	checkBytes(t, back)
	checkAnswer(t, a, cfm.Pdu{}, api.ErrForm)
}

// P14.4, and P14.1 with P14.2: what is put is taken.
func TestBack(t *testing.T) {
	for _, c := range some {
		checkBack(t, c.l)
	}
	rnd := rand.New(rand.NewPCG(14, 4))
	none := 0
	for range 30000 {
		l := someLoop(rnd)
		checkLoop(t, l)
		if wrong(l) != api.OK {
			none++
			continue
		}
		checkBytes(t, l)
		checkBack(t, l)
	}
	if none < 3000 || none > 20000 {
		t.Errorf("%d may not be", none)
	}
}

// P14.2, P14.3: messages of all kinds.
func TestMessages(t *testing.T) {
	rnd := rand.New(rand.NewPCG(4, 14))
	loops := 0
	for range 30000 {
		p := cfm.Pdu{
			Level: uint8(rnd.IntN(9)),
			Op:    uint8(rnd.IntN(6)),
			Flags: uint8(rnd.IntN(256)),
			Fixed: "\x01\x02\x03\x04\x05\x06"[:max(3, rnd.IntN(6))],
		}
		for range rnd.IntN(5) {
			p.Tlvs = append(p.Tlvs, tlv.Tlv{Type: uint8(rnd.IntN(6)), Value: full[:rnd.IntN(65)]})
		}
		before := slices.Clone(p.Tlvs)
		if checkMessage(t, p) {
			loops++
		}
		if !slices.Equal(p.Tlvs, before) { // R3
			t.Fatalf("%q, before %q", p.Tlvs, before)
		}
	}
	if loops < 1000 || loops > 15000 {
		t.Errorf("%d were loopbacks", loops)
	}
}

// FuzzTake holds that all messages are taken, answered, or refused.
func FuzzTake(f *testing.F) {
	for _, c := range some {
		f.Add(c.p.Level, c.p.Op, c.p.Flags, c.p.Fixed, uint8(3), c.l.Data, uint8(0), "")
		f.Add(c.p.Level, c.p.Op, uint8(9), c.p.Fixed, uint8(2), "a", uint8(3), "b")
		f.Add(c.p.Level, uint8(1), uint8(0), c.p.Fixed[1:], uint8(3), "a", uint8(3), "b")
	}
	f.Fuzz(func(t *testing.T, level, op, flags uint8, fixed string, kind uint8, value string, second uint8, other string) {
		checkMessage(t, cfm.Pdu{Level: level, Op: op, Flags: flags, Fixed: fixed, Tlvs: []tlv.Tlv{{Type: kind, Value: value}, {Type: second, Value: other}}})
	})
}

// FuzzPut holds that all loopbacks are answered, by their messages or by an error.
func FuzzPut(f *testing.F) {
	for _, c := range some {
		f.Add(c.l.Level, c.l.Reply, c.l.Num, c.l.Data)
		f.Add(c.l.Level+1, c.l.Reply, c.l.Num+1, c.l.Data+"x")
	}
	f.Fuzz(func(t *testing.T, level uint8, reply bool, num uint32, data string) {
		l := lbm.Loop{Level: level, Reply: reply, Num: num, Data: data}
		checkLoop(t, l)
		if wrong(l) == api.OK {
			checkBytes(t, l)
			checkBack(t, l)
		}
	})
}
