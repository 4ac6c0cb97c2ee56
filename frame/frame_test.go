package frame_test

import (
	"fmt"
	"math/rand/v2"
	"strings"
	"testing"

	"viaduct/api"
	"viaduct/frame"
)

// to and from are the addresses of the chapter's examples.
var (
	to   = api.Mac{0x01, 0x80, 0xc2, 0x00, 0x00, 0x00}
	from = api.Mac{0x02, 0x00, 0x00, 0x00, 0x00, 0x01}
)

// addresses are the bytes of both.
const addresses = "\x01\x80\xc2\x00\x00\x00\x02\x00\x00\x00\x00\x01"

// some are frames that may be, and their bytes.
var some = []struct {
	name  string
	f     api.Frame
	bytes string
}{
	{"zero", api.Frame{}, strings.Repeat("\x00", 14)},
	{"the chapter's", api.Frame{Dst: to, Src: from, Type: 0x0800, Data: "x"}, addresses + "\x08\x00x"},
	{"the chapter's with a tag", api.Frame{Dst: to, Src: from, Tagged: true, Pri: 1, Vid: 2, Type: 0x0800, Data: "x"}, addresses + "\x81\x00\x20\x02\x08\x00x"},
	{"a zero tag", api.Frame{Dst: to, Src: from, Tagged: true}, addresses + "\x81\x00\x00\x00\x00\x00"},
	{"the greatest priority", api.Frame{Dst: to, Src: from, Tagged: true, Pri: 7, Type: 1}, addresses + "\x81\x00\xe0\x00\x00\x01"},
	{"the greatest VLAN", api.Frame{Dst: to, Src: from, Tagged: true, Vid: 4095, Type: 1}, addresses + "\x81\x00\x0f\xff\x00\x01"},
	{"all of a tag", api.Frame{Dst: to, Src: from, Tagged: true, Pri: 7, Vid: 4095, Type: 0xffff}, addresses + "\x81\x00\xef\xff\xff\xff"},
	{"a tag, and TagType", api.Frame{Dst: to, Src: from, Tagged: true, Pri: 2, Vid: 0x123, Type: frame.TagType}, addresses + "\x81\x00\x41\x23\x81\x00"},
	{"a tag, and what looks like two", api.Frame{Dst: to, Src: from, Tagged: true, Type: frame.TagType, Data: "\x10\x00\x08\x00"}, addresses + "\x81\x00\x00\x00\x81\x00\x10\x00\x08\x00"},
	{"a type beside TagType, above", api.Frame{Dst: to, Src: from, Type: 0x8101, Data: "\x10\x00"}, addresses + "\x81\x01\x10\x00"},
	{"a type beside TagType, below", api.Frame{Dst: to, Src: from, Type: 0x80ff}, addresses + "\x80\xff"},
	{"TagType the other way round", api.Frame{Dst: to, Src: from, Type: 0x0081}, addresses + "\x00\x81"},
	{"any bytes", api.Frame{Dst: api.Mac{0xff, 0xfe, 0xfd, 0xfc, 0xfb, 0xfa}, Src: api.Mac{0x81, 0, 0x81, 0, 0x81, 0}, Type: 0x89ab, Data: "\x00\xff\x81\x00é\xc3"}, "\xff\xfe\xfd\xfc\xfb\xfa\x81\x00\x81\x00\x81\x00\x89\xab\x00\xff\x81\x00é\xc3"},
}

func checkPut(t *testing.T, f api.Frame, want string, err api.Errno) {
	t.Helper()
	if got, e := frame.Put(f); got != want || e != err {
		t.Errorf("Put(%s) = %s, %d; want %s, %d", brief(f), hex(got), e, hex(want), err)
	}
}

func checkTake(t *testing.T, s string, want api.Frame, err api.Errno) {
	t.Helper()
	if got, e := frame.Take(s); got != want || e != err {
		t.Errorf("Take(%s) = %s, %d; want %s, %d", hex(s), brief(got), e, brief(want), err)
	}
}

func checkLen(t *testing.T, f api.Frame, want int) {
	t.Helper()
	if got := frame.Len(f); got != want {
		t.Errorf("Len(%s) = %d; want %d", brief(f), got, want)
	}
}

// hex tells bytes, the first ones and how many.
func hex(s string) string { return fmt.Sprintf("%x (%d bytes)", s[:min(len(s), 24)], len(s)) }

// brief tells a frame without the whole of its data.
func brief(f api.Frame) string {
	data := f.Data
	f.Data = ""
	return fmt.Sprintf("%+v, data %s", f, hex(data))
}

// filled is a frame, the type 0800, with so many bytes of data.
func filled(tagged bool, data int) api.Frame {
	return api.Frame{Dst: to, Src: from, Tagged: tagged, Type: 0x0800, Data: strings.Repeat("d", data)}
}

// P3.1
func TestTagType(t *testing.T) {
	if frame.TagType != 0x8100 {
		t.Errorf("%x", frame.TagType)
	}
}

// P3.1
func TestPutAndLen(t *testing.T) {
	for _, c := range some {
		t.Run(c.name, func(t *testing.T) {
			checkPut(t, c.f, c.bytes, api.OK)
			checkLen(t, c.f, len(c.bytes))
		})
	}
}

// P3.1: each priority and each VLAN stands at its place of the tag, from those that may be on none.
func TestPutTags(t *testing.T) {
	for pri := range 256 {
		for _, vid := range []int{0, 1, 0xff, 0x100, 0x800, 4094, 4095, 4096, 4097, 8191, 8192, 0x8000, 0xffff} {
			f := api.Frame{Dst: to, Src: from, Tagged: true, Pri: uint8(pri), Vid: uint16(vid), Type: 0x0800, Data: "x"}
			checkLen(t, f, 19)
			if pri > 7 || vid > 4095 {
				checkPut(t, f, "", api.ErrArg)
				continue
			}
			n := pri*8192 + vid
			checkPut(t, f, addresses+"\x81\x00"+string([]byte{byte(n / 256), byte(n % 256)})+"\x08\x00x", api.OK)
		}
	}
}

// P3.1: without a tag there is no priority, no VLAN, and not the type that stands ahead of a tag.
func TestPutWithoutTag(t *testing.T) {
	cases := []struct {
		f    api.Frame
		size int
	}{
		{api.Frame{Pri: 1}, 14},
		{api.Frame{Pri: 8, Data: "x"}, 15},
		{api.Frame{Pri: 255}, 14},
		{api.Frame{Vid: 1}, 14},
		{api.Frame{Vid: 4096}, 14},
		{api.Frame{Vid: 0xffff, Data: "xyz"}, 17},
		{api.Frame{Pri: 1, Vid: 1}, 14},
		{api.Frame{Type: frame.TagType}, 14},
		{api.Frame{Type: frame.TagType, Data: "\x00\x00\x08\x00"}, 18},
		{api.Frame{Type: frame.TagType, Pri: 1, Vid: 1}, 14},
	}
	for _, c := range cases {
		c.f.Dst, c.f.Src = to, from
		checkPut(t, c.f, "", api.ErrArg)
		checkLen(t, c.f, c.size)
	}
}

// P3.1: the greatest frame has MaxFrame bytes, with its tag.
func TestPutTheGreatest(t *testing.T) {
	for _, c := range []struct {
		tagged bool
		head   int
	}{{false, 14}, {true, 18}} {
		most := filled(c.tagged, api.MaxFrame-c.head)
		checkLen(t, most, api.MaxFrame)
		if s, e := frame.Put(most); e != api.OK || len(s) != api.MaxFrame || s[c.head:] != most.Data {
			t.Errorf("tagged %t: %d bytes, %d", c.tagged, len(s), e)
		}
		for _, more := range []int{1, 2, 4, 1000, 1 << 17} {
			f := filled(c.tagged, api.MaxFrame-c.head+more)
			checkLen(t, f, api.MaxFrame+more)
			checkPut(t, f, "", api.ErrLong)
		}
	}
}

// P3.1: ErrArg ahead of ErrLong.
func TestPutTwoErrors(t *testing.T) {
	for _, f := range []api.Frame{{Pri: 1}, {Vid: 1}, {Type: frame.TagType}, {Tagged: true, Pri: 8}, {Tagged: true, Vid: 4096}} {
		f.Data = strings.Repeat("d", api.MaxFrame)
		checkPut(t, f, "", api.ErrArg)
	}
}

// P3.2
func TestTake(t *testing.T) {
	for _, c := range some {
		t.Run(c.name, func(t *testing.T) { checkTake(t, c.bytes, c.f, api.OK) })
	}
}

// P3.2: each number behind TagType: the bit 4096 is no frame's, all others are the priority's and the VLAN's.
func TestTakeTags(t *testing.T) {
	for n := range 1 << 16 {
		s := addresses + "\x81\x00" + string([]byte{byte(n / 256), byte(n % 256)}) + "\x08\x00x"
		if n/4096%2 == 1 {
			checkTake(t, s, api.Frame{}, api.ErrForm)
			continue
		}
		checkTake(t, s, api.Frame{Dst: to, Src: from, Tagged: true, Pri: uint8(n / 8192), Vid: uint16(n % 4096), Type: 0x0800, Data: "x"}, api.OK)
	}
}

// P3.2: bytes that end ahead of the type, or within it.
func TestTakeShort(t *testing.T) {
	plain, tagged := addresses+"\x08\x00", addresses+"\x81\x00\x20\x02\x08\x00"
	for n := range len(plain) {
		checkTake(t, plain[:n], api.Frame{}, api.ErrShort)
	}
	for n := range len(tagged) {
		checkTake(t, tagged[:n], api.Frame{}, api.ErrShort)
	}
	checkTake(t, plain, api.Frame{Dst: to, Src: from, Type: 0x0800}, api.OK)
	checkTake(t, tagged, api.Frame{Dst: to, Src: from, Tagged: true, Pri: 1, Vid: 2, Type: 0x0800}, api.OK)
}

// P3.2: a number with the bit 4096 ahead of a type that is missing; half a number is none.
func TestTakeFormAheadOfShort(t *testing.T) {
	checkTake(t, addresses+"\x81\x00\x10", api.Frame{}, api.ErrShort)
	checkTake(t, addresses+"\x81\x00\xff", api.Frame{}, api.ErrShort)
	for _, number := range []string{"\x10\x00", "\x30\x02", "\xff\xff"} {
		for _, behind := range []string{"", "\x08", "\x08\x00", "\x08\x00x", "\x81\x00"} {
			checkTake(t, addresses+"\x81\x00"+number+behind, api.Frame{}, api.ErrForm)
		}
	}
}

// P3.2: MaxFrame bytes are taken, more are not, whatever else is wrong with them.
func TestTakeTheGreatest(t *testing.T) {
	for _, tagged := range []bool{false, true} {
		f := filled(tagged, 0)
		head, _ := frame.Put(f)
		f.Data = strings.Repeat("d", api.MaxFrame-len(head))
		checkTake(t, head+f.Data, f, api.OK)
		checkTake(t, head+f.Data+"d", api.Frame{}, api.ErrLong)
		checkTake(t, head+strings.Repeat("d", 1<<17), api.Frame{}, api.ErrLong)
	}
	bad := addresses + "\x81\x00\x10\x00"
	checkTake(t, bad+strings.Repeat("\x00", api.MaxFrame-len(bad)), api.Frame{}, api.ErrForm)
	checkTake(t, bad+strings.Repeat("\x00", api.MaxFrame-len(bad)+1), api.Frame{}, api.ErrLong)
}

// someNumber is any number, or 0, or a great one, or TagType.
func someNumber(rnd *rand.Rand) uint16 {
	switch rnd.IntN(4) {
	case 0:
		return uint16(rnd.IntN(2))
	case 1:
		return frame.TagType
	case 2:
		return uint16(4094 + rnd.IntN(4))
	}
	return uint16(rnd.Uint32())
}

// someBytes are n bytes of any kind.
func someBytes(rnd *rand.Rand, n int) []byte {
	b := make([]byte, n)
	for i := range b {
		b[i] = byte(rnd.Uint32())
	}
	return b
}

// someFrame is a frame that often may not be.
func someFrame(rnd *rand.Rand) api.Frame {
	f := api.Frame{
		Dst:  api.Mac(someBytes(rnd, 6)),
		Src:  api.Mac(someBytes(rnd, 6)),
		Type: someNumber(rnd),
		Data: string(someBytes(rnd, rnd.IntN(40))),
	}
	f.Tagged = rnd.IntN(2) == 0
	if rnd.IntN(10) == 0 {
		f.Data = string(someBytes(rnd, api.MaxFrame-20+rnd.IntN(10)))
	}
	if f.Tagged || rnd.IntN(4) == 0 {
		f.Pri, f.Vid = uint8(rnd.IntN(9)), someNumber(rnd)
	}
	return f
}

// P3.3: what is put is taken, and has as many bytes as Len tells.
func TestPutThenTake(t *testing.T) {
	rnd := rand.New(rand.NewPCG(3, 3))
	put := map[bool]int{}
	for range 20000 {
		f := someFrame(rnd)
		s, e := frame.Put(f)
		if e != api.OK {
			if s != "" {
				t.Fatalf("%s: an error and bytes", brief(f))
			}
			continue
		}
		put[f.Tagged]++
		if len(s) != frame.Len(f) {
			t.Fatalf("%s: %d bytes, Len %d", brief(f), len(s), frame.Len(f))
		}
		checkTake(t, s, f, api.OK)
	}
	if put[false] < 1000 || put[true] < 1000 {
		t.Errorf("too few frames were put: %v", put)
	}
}

// P3.3: bytes that are taken are put as themselves.
func TestTakeThenPut(t *testing.T) {
	rnd := rand.New(rand.NewPCG(3, 2))
	taken := map[bool]int{}
	for range 20000 {
		b := someBytes(rnd, rnd.IntN(40))
		if rnd.IntN(10) == 0 {
			b = someBytes(rnd, api.MaxFrame-5+rnd.IntN(10))
		}
		if len(b) > 13 && rnd.IntN(2) == 0 {
			b[12], b[13] = 0x81, 0x00
		}
		s := string(b)
		f, e := frame.Take(s)
		if e != api.OK {
			if f != (api.Frame{}) {
				t.Fatalf("%s: an error and a frame", hex(s))
			}
			continue
		}
		taken[f.Tagged]++
		checkPut(t, f, s, api.OK)
		checkLen(t, f, len(s))
	}
	if taken[false] < 1000 || taken[true] < 1000 {
		t.Errorf("too few frames were taken: %v", taken)
	}
}
