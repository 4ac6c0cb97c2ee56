package tlv_test

import (
	"encoding/binary"
	"math/rand/v2"
	"slices"
	"strings"
	"testing"

	"viaduct/api"
	"viaduct/tlv"
)

const (
	most  = 1480  // bytes of a value that is put
	taken = 65535 // bytes of a value that is taken
)

// x are so many bytes.
func x(n int) string { return strings.Repeat("x", n) }

// of is a thing.
func of(kind uint8, value string) tlv.Tlv { return tlv.Tlv{Type: kind, Value: value} }

// row are things in a row.
func row(l ...tlv.Tlv) []tlv.Tlv { return l }

// some are rows, and their bytes.
var some = []struct {
	name  string
	l     []tlv.Tlv
	bytes string
}{
	{"the chapter's", row(of(3, "ab")), "\x03\x00\x02\x61\x62\x00"},
	{"of none", nil, "\x00"},
	{"a value of no bytes", row(of(1, "")), "\x01\x00\x00\x00"},
	{"the greatest type", row(of(255, "\xff")), "\xff\x00\x01\xff\x00"},
	{"noughts in a value", row(of(1, "\x00\x00\x00"), of(2, "\x00")), "\x01\x00\x03\x00\x00\x00\x02\x00\x01\x00\x00"},
	{"a row in a value", row(of(7, "\x03\x00\x02ab\x00")), "\x07\x00\x06\x03\x00\x02ab\x00\x00"},
	{"types that fall, and come twice", row(of(9, "a"), of(2, "b"), of(9, "a"), of(2, "")), "\x09\x00\x01a\x02\x00\x01b\x09\x00\x01a\x02\x00\x00\x00"},
	{"a value of 255", row(of(4, x(255))), "\x04\x00\xff" + x(255) + "\x00"},
	{"a value of 256", row(of(4, x(256))), "\x04\x01\x00" + x(256) + "\x00"},
	{"a value of 258", row(of(4, x(258)), of(5, "y")), "\x04\x01\x02" + x(258) + "\x05\x00\x01y\x00"},
	{"the longest value", row(of(4, x(1480)), of(5, x(1480))), "\x04\x05\xc8" + x(1480) + "\x05\x05\xc8" + x(1480) + "\x00"},
}

// long are rows with values that are taken alone, and their bytes.
var long = []struct {
	l     []tlv.Tlv
	bytes string
}{
	{row(of(4, x(1481))), "\x04\x05\xc9" + x(1481) + "\x00"},
	{row(of(1, "a"), of(4, x(40000)), of(2, "b")), "\x01\x00\x01a\x04\x9c\x40" + x(40000) + "\x02\x00\x01b\x00"},
	{row(of(4, x(65535)), of(4, x(65535))), "\x04\xff\xff" + x(65535) + "\x04\xff\xff" + x(65535) + "\x00"},
}

// behind are bytes that may stand behind a row.
var behind = []string{"", "\x00", "\x07", "\x01\x00\x00", "\x03\x00\x02ab\x00", "\xff\xff\xff\xff", x(3000)}

func checkPut(t *testing.T, l []tlv.Tlv, want string, err api.Errno) {
	t.Helper()
	if got, e := tlv.Put(l...); got != want || e != err {
		t.Errorf("Put(%.40q) = %.40x (%d), %d; want %.40x (%d), %d", l, got, len(got), e, want, len(want), err)
	}
}

func checkTake(t *testing.T, s string, want []tlv.Tlv, rest string, err api.Errno) {
	t.Helper()
	if l, r, e := tlv.Take(s); !slices.Equal(l, want) || r != rest || e != err {
		t.Errorf("Take(%.40x) = %.40q, %.40x, %d; want %.40q, %.40x, %d", s, l, r, e, want, rest, err)
	}
}

func checkFind(t *testing.T, l []tlv.Tlv, kind uint8, want string, has bool) {
	t.Helper()
	if v, is := tlv.Find(l, kind); v != want || is != has {
		t.Errorf("Find(%.40q, %d) = %.40q, %t; want %.40q, %t", l, kind, v, is, want, has)
	}
}

// wrong is the error that the chapter asks for of a row that is put.
func wrong(l []tlv.Tlv) api.Errno {
	for _, t := range l {
		if t.Type == 0 {
			return api.ErrArg
		}
		if len(t.Value) > most {
			return api.ErrLong
		}
	}
	return api.OK
}

// bytesOf are the bytes of a row of things that are taken.
func bytesOf(l []tlv.Tlv) string {
	var b []byte
	for _, t := range l {
		b = append(b, t.Type)
		b = binary.BigEndian.AppendUint16(b, uint16(len(t.Value)))
		b = append(b, t.Value...)
	}
	return string(b) + "\x00"
}

func TestMaxTlv(t *testing.T) {
	if tlv.MaxTlv != 1480 {
		t.Error(tlv.MaxTlv)
	}
}

// P11.1, P11.2
func TestPutAndTake(t *testing.T) {
	for _, c := range some {
		t.Run(c.name, func(t *testing.T) {
			if bytesOf(c.l) != c.bytes {
				t.Fatalf("%x", bytesOf(c.l))
			}
			checkPut(t, c.l, c.bytes, api.OK)
			for _, rest := range behind {
				checkTake(t, c.bytes+rest, c.l, rest, api.OK)
			}
		})
	}
}

// P11.1: no things are a row, be the list nil or empty.
func TestPutNone(t *testing.T) {
	if s, e := tlv.Put(); s != "\x00" || e != api.OK {
		t.Errorf("%x, %d", s, e)
	}
	checkPut(t, []tlv.Tlv{}, "\x00", api.OK)
	checkTake(t, "\x00", nil, "", api.OK)
}

// P11.1, P11.2: of all types 0 alone may not be; it ends a row.
func TestTypes(t *testing.T) {
	for n := 1; n < 256; n++ {
		s := string([]byte{byte(n), 0, 1, 'a', 0})
		checkPut(t, row(of(uint8(n), "a")), s, api.OK)
		checkTake(t, s+"b", row(of(uint8(n), "a")), "b", api.OK)
	}
	checkPut(t, row(of(0, "a")), "", api.ErrArg)
	checkPut(t, row(of(0, "")), "", api.ErrArg)
	checkTake(t, "\x00\x00\x01a\x00", nil, "\x00\x01a\x00", api.OK)
}

// P11.1, P11.2: values are put up to MaxTlv bytes, and taken up to what two bytes tell.
func TestLengths(t *testing.T) {
	for _, n := range []int{0, 1, 2, 127, 128, 254, 255, 256, 257, 511, 512, 1023, 1024, 1479, 1480, 1481, 1482, 1500, 1535, 1536, 32767, 32768, 65534, taken} {
		l := row(of(1, "a"), of(9, x(n)), of(2, "b"))
		s := bytesOf(l)
		checkTake(t, s, l, "", api.OK)
		checkTake(t, s+"c", l, "c", api.OK)
		if n > most {
			s = ""
		}
		checkPut(t, l, s, wrong(l))
	}
}

// P11.1: values whose length is beyond two bytes are long, not as long as the two bytes left of it.
func TestFarTooLong(t *testing.T) {
	for _, n := range []int{65536, 65537, 65536 + 1480, 2 * 65536, 1 << 20} {
		checkPut(t, row(of(1, x(n))), "", api.ErrLong)
		checkPut(t, row(of(1, "a"), of(1, x(n))), "", api.ErrLong)
	}
}

// P11.1: the error is that of the first thing that is wrong, wherever it stands; of that thing ErrArg goes ahead.
func TestPutWrong(t *testing.T) {
	good, noType, tooLong, both := of(1, "a"), of(0, "a"), of(1, x(1481)), of(0, x(1481))
	for _, c := range []struct {
		l   []tlv.Tlv
		err api.Errno
	}{
		{row(tlv.Tlv{}), api.ErrArg},
		{row(noType), api.ErrArg},
		{row(tooLong), api.ErrLong},
		{row(both), api.ErrArg},
		{row(noType, tooLong), api.ErrArg},
		{row(tooLong, noType), api.ErrLong},
		{row(tooLong, both), api.ErrLong},
		{row(both, tooLong), api.ErrArg},
		{row(good, noType), api.ErrArg},
		{row(noType, good), api.ErrArg},
		{row(good, tooLong), api.ErrLong},
		{row(tooLong, good), api.ErrLong},
		{row(good, good, tooLong, good, noType), api.ErrLong},
		{row(good, good, noType, good, tooLong), api.ErrArg},
		{row(good, good, both, good), api.ErrArg},
		{row(good, of(255, x(1480)), of(2, ""), tooLong), api.ErrLong},
	} {
		checkPut(t, c.l, "", c.err)
		if wrong(c.l) != c.err {
			t.Error(c.err)
		}
	}
}

// P11.1: a row may be far longer than a frame.
func TestLongRow(t *testing.T) {
	l := make([]tlv.Tlv, 200000)
	for i := range l {
		l[i] = of(uint8(1+i%255), x(i%4))
	}
	s := bytesOf(l)
	checkPut(t, l, s, api.OK)
	checkTake(t, s+"x", l, "x", api.OK)
	checkTake(t, s[:len(s)-1], nil, "", api.ErrShort)
	checkPut(t, append(l, tlv.Tlv{}), "", api.ErrArg)
}

// P11.2: a value may be longer than it may be put.
func TestTakeLong(t *testing.T) {
	for _, c := range long {
		for _, rest := range behind {
			checkTake(t, c.bytes+rest, c.l, rest, api.OK)
		}
		checkPut(t, c.l, "", api.ErrLong)
	}
}

// P11.2: bytes that end ahead of the row's end, wherever, are short; nothing of them is handed out.
func TestTakeShort(t *testing.T) {
	for _, c := range some {
		for n := range len(c.bytes) {
			checkTake(t, c.bytes[:n], nil, "", api.ErrShort)
		}
	}
	for _, s := range []string{
		"",
		"\x01",
		"\x01\x00",
		"\x01\x00\x00",
		"\x01\x00\x01",
		"\x01\x00\x01\x00",                 // the nought is the value's
		"\x01\x00\x02a\x00",                // the same
		"\x01\x01\x00\x00",                 // the length is 256
		"\x01\xff\xff" + x(65534),          // a byte is missing
		"\x01\xff\xff" + x(65535),          // the end is missing
		"\x01\x00\x01a\x02",                // no length
		"\x01\x00\x01a\x02\x00",            // half a length
		"\x01\x00\x01a\x02\x00\x01",        // no value
		"\x01\x00\x01a\x02\x00\x01b",       // no end
		"\x01\x00\x01a\x02\x00\x03b\x00",   // a value that goes beyond
		"\xff\xff\xff\xff",                 // the same
		"\x01\x00\x00\x02\x00\x00\x03\x00", // no bytes of values, and half a length
	} {
		checkTake(t, s, nil, "", api.ErrShort)
	}
}

// P11.3
func TestFind(t *testing.T) {
	l := row(of(3, "ab"), of(1, ""), of(3, "c"), of(255, "\x00"), of(1, "d"), of(4, x(2000)))
	checkFind(t, l, 3, "ab", true)
	checkFind(t, l, 1, "", true) // a value of no bytes is one
	checkFind(t, l, 255, "\x00", true)
	checkFind(t, l, 4, x(2000), true)
	for _, n := range []uint8{0, 2, 5, 99, 254} {
		checkFind(t, l, n, "", false)
	}
	checkFind(t, l[1:], 3, "c", true)
	checkFind(t, l[2:], 1, "d", true)
	checkFind(t, l[:1], 1, "", false)
}

// P11.3: of no things there is none of any type; of one thing its own.
func TestFindEachType(t *testing.T) {
	for n := range 256 {
		checkFind(t, nil, uint8(n), "", false)
		checkFind(t, []tlv.Tlv{}, uint8(n), "", false)
		for m := 1; m < 256; m++ {
			value := ""
			if n == m {
				value = "a"
			}
			checkFind(t, row(of(uint8(m), "a")), uint8(n), value, n == m)
		}
	}
}

// R3: what is handed in is not changed, nor the room behind its end.
func TestHandedIn(t *testing.T) {
	room := row(of(1, "a"), of(2, "b"), of(0, "c"), of(4, x(1481)))
	before := slices.Clone(room)
	checkPut(t, room[:2], "\x01\x00\x01a\x02\x00\x01b\x00", api.OK)
	checkPut(t, room[:3], "", api.ErrArg)
	checkFind(t, room[:2], 2, "b", true)
	checkFind(t, room[:2], 4, "", false)
	if !slices.Equal(room, before) {
		t.Errorf("%.40q", room)
	}
}

// R3: what is handed out is new memory, spare room too.
func TestHandedOut(t *testing.T) {
	s := bytesOf(row(of(1, "a"), of(2, "b"), of(3, "c")))
	first, _, _ := tlv.Take(s)
	second, _, _ := tlv.Take(s)
	for i := range first[:cap(first)] {
		first[:cap(first)][i] = of(9, "z")
	}
	want := row(of(1, "a"), of(2, "b"), of(3, "c"))
	if !slices.Equal(second, want) {
		t.Errorf("%q", second)
	}
	checkTake(t, s, want, "", api.OK)
}

// someRow is a row of things that are taken; mostly they are put too.
func someRow(rnd *rand.Rand) []tlv.Tlv {
	l := make([]tlv.Tlv, rnd.IntN(5))
	for i := range l {
		n := rnd.IntN(6)
		if rnd.IntN(40) == 0 {
			n = most - 2 + rnd.IntN(4)
		}
		value := make([]byte, n)
		for j := range value {
			value[j] = byte(rnd.IntN(4))
		}
		l[i] = of(uint8(1+rnd.IntN(255)), string(value))
	}
	return l
}

// P11.4: a row that is put is taken, whatever is behind it.
func TestPutThenTake(t *testing.T) {
	rnd := rand.New(rand.NewPCG(11, 4))
	put := 0
	for range 30000 {
		l, rest := someRow(rnd), bytesOf(someRow(rnd))
		rest = rest[rnd.IntN(len(rest)+1):]
		if e := wrong(l); e != api.OK {
			checkPut(t, l, "", e)
			continue
		}
		put++
		s, e := tlv.Put(l...)
		if e != api.OK {
			t.Fatalf("%.40q: %d", l, e)
		}
		checkTake(t, s+rest, l, rest, api.OK)
	}
	if put < 20000 || put == 30000 {
		t.Errorf("%d were put", put)
	}
}

// checkBytes holds of any bytes that they are taken as the things whose bytes they are, or are short.
func checkBytes(t *testing.T, s string) bool {
	t.Helper()
	l, rest, e := tlv.Take(s)
	if e != api.OK {
		checkTake(t, s, nil, "", api.ErrShort)
		// With as many noughts as a value may lack, all bytes have an end.
		if _, _, e := tlv.Take(s + strings.Repeat("\x00", taken+3)); e != api.OK {
			t.Errorf("Take(%.40x, and noughts): %d", s, e)
		}
		return false
	}
	if bytesOf(l)+rest != s || slices.ContainsFunc(l, func(a tlv.Tlv) bool { return a.Type == 0 }) {
		t.Errorf("Take(%.40x) = %.40q, %.40x", s, l, rest)
	}
	back := bytesOf(l)
	if wrong(l) != api.OK {
		back = ""
	}
	checkPut(t, l, back, wrong(l))
	return true
}

// P11.4: bytes that are taken are put as themselves, if no value is too long.
func TestTakeThenPut(t *testing.T) {
	for _, c := range some {
		checkBytes(t, c.bytes)
	}
	for _, c := range long {
		checkBytes(t, c.bytes+"x")
	}
	rnd := rand.New(rand.NewPCG(4, 11))
	count := 0
	for range 20000 {
		s := []byte(bytesOf(someRow(rnd)) + bytesOf(someRow(rnd)))
		for range rnd.IntN(3) {
			s[rnd.IntN(len(s))] ^= 1 << rnd.IntN(8)
		}
		if checkBytes(t, string(s[:1+rnd.IntN(len(s))])) {
			count++
		}
	}
	if count < 4000 || count > 16000 {
		t.Errorf("%d were taken", count)
	}
}

// FuzzTake holds that all bytes are answered.
func FuzzTake(f *testing.F) {
	for _, c := range some {
		f.Add(c.bytes)
		f.Add(c.bytes[1:] + "\x07")
	}
	f.Fuzz(func(t *testing.T, s string) { checkBytes(t, s) })
}

// FuzzPut holds that all things are answered, as a row's bytes or by the error that they ask for, and are found.
func FuzzPut(f *testing.F) {
	f.Add(uint8(3), "ab", uint8(0), x(1481))
	f.Add(uint8(1), "", uint8(1), x(1480))
	f.Add(uint8(255), x(1481), uint8(0), "")
	f.Fuzz(func(t *testing.T, kind uint8, value string, other uint8, second string) {
		l := row(of(kind, value), of(other, second))
		checkFind(t, l, kind, value, true)
		if kind != other {
			checkFind(t, l, other, second, true)
		}
		if e := wrong(l); e != api.OK {
			checkPut(t, l, "", e)
			return
		}
		checkPut(t, l, bytesOf(l), api.OK)
		checkTake(t, bytesOf(l)+value, l, value, api.OK)
	})
}
