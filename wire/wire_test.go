package wire_test

import (
	"bytes"
	"math"
	"math/rand/v2"
	"testing"

	"viaduct/api"
	"viaduct/wire"
)

// heads are bytes to put behind: none, some, and some with spare room.
func heads() map[string][]byte {
	return map[string][]byte{
		"nil":   nil,
		"empty": {},
		"some":  {0xff, 0x00, 0x7f},
		"roomy": append(make([]byte, 0, 64), 0xff, 0x00, 0x7f),
	}
}

func checkPut[T uint8 | uint16 | uint32 | uint64](t *testing.T, n T, want ...byte) {
	t.Helper()
	for name, head := range heads() {
		before := bytes.Clone(head)
		got := wire.Put(head, n)
		if !bytes.Equal(got, append(bytes.Clone(before), want...)) {
			t.Errorf("Put(%s, %T %d) = %x", name, n, n, got)
		}
		if !bytes.Equal(head, before) {
			t.Errorf("Put(%s, %T %d) changed what was handed in to %x", name, n, n, head)
		}
	}
}

// P1.1
func TestPut(t *testing.T) {
	checkPut(t, uint8(0), 0)
	checkPut(t, uint8(1), 1)
	checkPut(t, uint8(0x9a), 0x9a)
	checkPut(t, uint8(math.MaxUint8), 0xff)
	checkPut(t, uint16(0), 0, 0)
	checkPut(t, uint16(1), 0, 1)
	checkPut(t, uint16(258), 1, 2)
	checkPut(t, uint16(math.MaxUint16), 0xff, 0xff)
	checkPut(t, uint32(0), 0, 0, 0, 0)
	checkPut(t, uint32(1), 0, 0, 0, 1)
	checkPut(t, uint32(0x89abcdef), 0x89, 0xab, 0xcd, 0xef)
	checkPut(t, uint32(math.MaxUint32), 0xff, 0xff, 0xff, 0xff)
	checkPut(t, uint64(0), 0, 0, 0, 0, 0, 0, 0, 0)
	checkPut(t, uint64(1), 0, 0, 0, 0, 0, 0, 0, 1)
	checkPut(t, uint64(0x8123456789abcdef), 0x81, 0x23, 0x45, 0x67, 0x89, 0xab, 0xcd, 0xef)
	checkPut(t, uint64(math.MaxUint64), 0xff, 0xff, 0xff, 0xff, 0xff, 0xff, 0xff, 0xff)
}

// P1.1: two numbers behind the same bytes don't touch each other, nor the room behind these.
func TestPutTwiceBehindTheSame(t *testing.T) {
	room := []byte{1, 2, 0xee, 0xee, 0xee, 0xee}
	x := wire.Put(room[:2], uint16(0x0304))
	y := wire.Put(room[:2], uint16(0x0506))
	if !bytes.Equal(x, []byte{1, 2, 3, 4}) || !bytes.Equal(y, []byte{1, 2, 5, 6}) {
		t.Errorf("%x, %x", x, y)
	}
	if !bytes.Equal(room, []byte{1, 2, 0xee, 0xee, 0xee, 0xee}) {
		t.Errorf("the room behind the bytes is %x", room)
	}
	y[0] = 9
	if room[0] != 1 || x[0] != 1 {
		t.Error("an answer shares memory")
	}
}

// reads are the calls that read a number, by widths.
var reads = []struct {
	width int
	read  func(r *wire.Reader) uint64
}{
	{1, func(r *wire.Reader) uint64 { return uint64(r.U8()) }},
	{2, func(r *wire.Reader) uint64 { return uint64(r.U16()) }},
	{4, func(r *wire.Reader) uint64 { return uint64(r.U32()) }},
	{8, func(r *wire.Reader) uint64 { return r.U64() }},
}

// checkState holds a reader's Err and Left against what they must be.
func checkState(t *testing.T, r *wire.Reader, err api.Errno, left int) {
	t.Helper()
	if r.Err() != err || r.Left() != left {
		t.Errorf("Err %d, Left %d; want %d, %d", r.Err(), r.Left(), err, left)
	}
}

// P1.2
func TestNumbers(t *testing.T) {
	const bytesOf = "\x81\x23\x45\x67\x89\xab\xcd\xef"
	want := map[int]uint64{1: 0x81, 2: 0x8123, 4: 0x81234567, 8: 0x8123456789abcdef}
	for _, c := range reads {
		just := wire.Of(bytesOf[:c.width])
		if got := c.read(just); got != want[c.width] {
			t.Errorf("width %d: %x", c.width, got)
		}
		checkState(t, just, api.OK, 0)

		more := wire.Of(bytesOf[:c.width] + "!")
		if got := c.read(more); got != want[c.width] {
			t.Errorf("width %d, one byte more: %x", c.width, got)
		}
		checkState(t, more, api.OK, 1)

		for _, s := range []string{bytesOf[:c.width-1], ""} {
			short := wire.Of(s)
			if got := c.read(short); got != 0 {
				t.Errorf("width %d of %d bytes: %x", c.width, len(s), got)
			}
			checkState(t, short, api.ErrShort, 0)
		}
	}
}

// P1.2: numbers of the least and greatest digits.
func TestNumbersGreatest(t *testing.T) {
	zeros, ones := wire.Of(string(make([]byte, 15))), wire.Of(string(bytes.Repeat([]byte{0xff}, 15)))
	if zeros.U8() != 0 || zeros.U16() != 0 || zeros.U32() != 0 || zeros.U64() != 0 || zeros.End() != api.OK {
		t.Error("zeros")
	}
	if ones.U8() != math.MaxUint8 || ones.U16() != math.MaxUint16 || ones.U32() != math.MaxUint32 || ones.U64() != math.MaxUint64 || ones.End() != api.OK {
		t.Error("ones")
	}
}

// P1.2: the example of the chapter.
func TestNumbersThatEndTooSoon(t *testing.T) {
	r := wire.Of("\x01\x02\x03")
	if n := r.U16(); n != 258 || r.Err() != api.OK {
		t.Error(n, r.Err())
	}
	if n := r.U16(); n != 0 || r.Err() != api.ErrShort {
		t.Error(n, r.Err())
	}
	if n := r.U8(); n != 0 || r.Err() != api.ErrShort {
		t.Error(n, r.Err())
	}
}

// P1.2
func TestText(t *testing.T) {
	cases := []struct {
		n    int
		want string
		err  api.Errno
		left int
	}{
		{math.MinInt, "", api.OK, 4},
		{-1, "", api.OK, 4},
		{0, "", api.OK, 4},
		{1, "b", api.OK, 3},
		{3, "b\x00\xff", api.OK, 1},
		{4, "b\x00\xffc", api.OK, 0},
		{5, "", api.ErrShort, 0},
		{math.MaxInt, "", api.ErrShort, 0},
	}
	for _, c := range cases {
		r := wire.Of("ab\x00\xffc")
		r.U8()
		if got := r.Text(c.n); got != c.want {
			t.Errorf("Text(%d) = %q", c.n, got)
		}
		checkState(t, r, c.err, c.left)
	}
}

// P1.2: at the end nothing can be asked for, but nothing.
func TestTextAtTheEnd(t *testing.T) {
	r := wire.Of("")
	if r.Text(0) != "" || r.Text(-1) != "" || r.Err() != api.OK {
		t.Error("none of none")
	}
	if r.Text(1) != "" || r.Err() != api.ErrShort {
		t.Error("one of none")
	}
}

// P1.2
func TestRest(t *testing.T) {
	r := wire.Of("abcd")
	r.U8()
	if got := r.Rest(); got != "bcd" {
		t.Errorf("in the middle: %q", got)
	}
	checkState(t, r, api.OK, 0)
	if got := r.Rest(); got != "" {
		t.Errorf("twice: %q", got)
	}
	checkState(t, r, api.OK, 0)
	if end := wire.Of("a"); end.U8() != 'a' || end.Rest() != "" || end.End() != api.OK {
		t.Error("at the end")
	}
	if whole := wire.Of("abc"); whole.Rest() != "abc" || whole.End() != api.OK {
		t.Error("at the beginning")
	}
	if none := wire.Of(""); none.Rest() != "" || none.End() != api.OK {
		t.Error("of none")
	}
}

// failing are the ways in which a reader of which two bytes are left comes to an error.
var failing = map[string]struct {
	err  api.Errno
	fail func(r *wire.Reader)
}{
	"Bad":        {api.ErrForm, func(r *wire.Reader) { r.Bad() }},
	"End":        {api.ErrForm, func(r *wire.Reader) { r.End() }},
	"U32 short":  {api.ErrShort, func(r *wire.Reader) { r.U32() }},
	"U64 short":  {api.ErrShort, func(r *wire.Reader) { r.U64() }},
	"Text short": {api.ErrShort, func(r *wire.Reader) { r.Text(3) }},
}

// checkDead holds that a reader with an error gives nothing, and that no call changes the error.
func checkDead(t *testing.T, name string, r *wire.Reader, err api.Errno) {
	t.Helper()
	calls := []struct {
		name  string
		empty func() bool
	}{
		{"U8", func() bool { return r.U8() == 0 }},
		{"U16", func() bool { return r.U16() == 0 }},
		{"U32", func() bool { return r.U32() == 0 }},
		{"U64", func() bool { return r.U64() == 0 }},
		{"Text(1)", func() bool { return r.Text(1) == "" }},
		{"Text(0)", func() bool { return r.Text(0) == "" }},
		{"Text(-1)", func() bool { return r.Text(-1) == "" }},
		{"Text(max)", func() bool { return r.Text(math.MaxInt) == "" }},
		{"Rest", func() bool { return r.Rest() == "" }},
		{"Bad", func() bool { r.Bad(); return true }},
		{"Left", func() bool { return r.Left() == 0 }},
		{"End", func() bool { return r.End() == err }},
	}
	for _, c := range calls {
		if !c.empty() {
			t.Errorf("%s, then %s: not empty", name, c.name)
		}
		if r.Err() != err || r.Left() != 0 {
			t.Errorf("%s, then %s: Err %d, Left %d", name, c.name, r.Err(), r.Left())
		}
	}
}

// P1.3
func TestTheFirstErrorStays(t *testing.T) {
	for name, c := range failing {
		r := wire.Of("abc")
		if r.U8() != 'a' || r.Err() != api.OK || r.Left() != 2 {
			t.Fatal("before")
		}
		c.fail(r)
		checkDead(t, name, r, c.err)
	}
}

// P1.3: the first error stays where no bytes are left, too.
func TestBad(t *testing.T) {
	r := wire.Of("")
	r.Bad()
	checkState(t, r, api.ErrForm, 0)
	if r.U8() != 0 || r.End() != api.ErrForm {
		t.Error("ErrShort came instead")
	}
	r = wire.Of("")
	r.U8()
	r.Bad()
	if r.Err() != api.ErrShort || r.End() != api.ErrShort {
		t.Error("ErrForm came instead")
	}
}

// P1.3
func TestLeftAndEnd(t *testing.T) {
	r := wire.Of("abc")
	checkState(t, r, api.OK, 3)
	r.U16()
	checkState(t, r, api.OK, 1)
	if r.End() != api.ErrForm {
		t.Error("End with a byte left")
	}
	checkState(t, r, api.ErrForm, 0)

	r = wire.Of("abc")
	r.Text(3)
	checkState(t, r, api.OK, 0)
	if r.End() != api.OK || r.End() != api.OK {
		t.Error("End with none left")
	}
	checkState(t, r, api.OK, 0)
	if r.U8() != 0 || r.End() != api.ErrShort {
		t.Error("behind an End that is OK reading goes on")
	}

	r = wire.Of("abc")
	r.U64()
	if r.End() != api.ErrShort {
		t.Error("End with bytes left and an error before")
	}
}

// P1.3
func TestNilReader(t *testing.T) {
	checkDead(t, "nil", nil, api.ErrNil)
}

// P1.2, P1.3: readers have nothing in common.
func TestReadersStandApart(t *testing.T) {
	a, b := wire.Of("ab"), wire.Of("ab")
	a.U64()
	if b.U16() != 0x6162 || b.End() != api.OK || a.Err() != api.ErrShort {
		t.Error("one reader changed another one")
	}
}

// putWidth puts a number in so many bytes.
func putWidth(b []byte, width int, n uint64) []byte {
	switch width {
	case 1:
		return wire.Put(b, uint8(n))
	case 2:
		return wire.Put(b, uint16(n))
	case 4:
		return wire.Put(b, uint32(n))
	}
	return wire.Put(b, n)
}

// P1.4: what was put is read as itself, and nothing is left.
func TestPutThenRead(t *testing.T) {
	rnd := rand.New(rand.NewPCG(1, 4))
	for range 500 {
		var b []byte
		var numbers []uint64
		var kinds []int
		for range rnd.IntN(40) {
			k := rnd.IntN(len(reads))
			n := rnd.Uint64() >> (64 - 8*reads[k].width)
			b = putWidth(b, reads[k].width, n)
			numbers, kinds = append(numbers, n), append(kinds, k)
		}
		r := wire.Of(string(b))
		for i, k := range kinds {
			if got := reads[k].read(r); got != numbers[i] {
				t.Fatalf("number %d of width %d: %x, was put as %x", i, reads[k].width, got, numbers[i])
			}
		}
		if r.Left() != 0 || r.End() != api.OK {
			t.Fatalf("left %d, end %d", r.Left(), r.End())
		}
	}
}

// P1.4: whatever bytes are read as numbers of any widths are put as themselves.
func TestReadThenPut(t *testing.T) {
	rnd := rand.New(rand.NewPCG(4, 1))
	for range 500 {
		s := make([]byte, rnd.IntN(120))
		for i := range s {
			s[i] = byte(rnd.Uint32())
		}
		var b []byte
		r := wire.Of(string(s))
		for r.Left() > 0 {
			c := reads[rnd.IntN(len(reads))]
			if c.width <= r.Left() {
				b = putWidth(b, c.width, c.read(r))
			}
		}
		if r.End() != api.OK || !bytes.Equal(b, s) {
			t.Fatalf("read %x, put %x, end %d", s, b, r.End())
		}
	}
}
