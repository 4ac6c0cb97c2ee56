package mac_test

import (
	"math"
	"math/rand/v2"
	"strings"
	"testing"

	"viaduct/api"
	"viaduct/mac"
)

// near is an address with the first five bytes of the bridge's own group.
func near(last byte) api.Mac { return api.Mac{0x01, 0x80, 0xc2, 0x00, 0x00, last} }

// beside are all addresses that are unlike m in just one bit of the first five bytes.
func beside(m api.Mac) []api.Mac {
	var out []api.Mac
	for bit := range 40 {
		x := m
		x[bit/8] ^= 1 << (bit % 8)
		out = append(out, x)
	}
	return out
}

// someMac is any address.
func someMac(rnd *rand.Rand) api.Mac {
	var m api.Mac
	for i := range m {
		m[i] = byte(rnd.Uint32())
	}
	return m
}

// P2.1
func TestAllAndOwn(t *testing.T) {
	if m := mac.All(); m != (api.Mac{0xff, 0xff, 0xff, 0xff, 0xff, 0xff}) {
		t.Errorf("All %x", m)
	}
	if m := mac.Own(); m != (api.Mac{0x01, 0x80, 0xc2, 0x00, 0x00, 0x00}) {
		t.Errorf("Own %x", m)
	}
}

// P2.1: up to level 7 there is one, from 8 on none.
func TestGroupsOfLevels(t *testing.T) {
	for level := range 256 {
		check, isCheck := mac.Check(uint8(level))
		trace, isTrace := mac.Trace(uint8(level))
		var wantCheck, wantTrace api.Mac
		if level <= 7 {
			wantCheck, wantTrace = near(byte(0x30+level)), near(byte(0x38+level))
		}
		if check != wantCheck || isCheck != (level <= 7) {
			t.Errorf("Check(%d) = %x, %t", level, check, isCheck)
		}
		if trace != wantTrace || isTrace != (level <= 7) {
			t.Errorf("Trace(%d) = %x, %t", level, trace, isTrace)
		}
	}
}

func checkLevel(t *testing.T, m api.Mac, want uint8, is bool) {
	t.Helper()
	if got, gotIs := mac.Level(m); got != want || gotIs != is {
		t.Errorf("Level(%x) = %d, %t", m, got, gotIs)
	}
}

// P2.2: 30 to 37 are the groups of checks, 38 to 3f those of traces.
func TestLevel(t *testing.T) {
	for last := range 256 {
		m := near(byte(last))
		if last < 0x30 || last > 0x3f {
			checkLevel(t, m, 0, false)
			continue
		}
		checkLevel(t, m, uint8((last-0x30)%8), true)
		for _, x := range beside(m) {
			checkLevel(t, x, 0, false)
		}
	}
	checkLevel(t, api.Mac{}, 0, false)
	checkLevel(t, mac.All(), 0, false)
}

// P2.2: just the lowest bit of the first byte tells.
func TestGroup(t *testing.T) {
	for first := range 256 {
		for _, other := range []byte{0x00, 0x01, 0xff} {
			m := api.Mac{byte(first), other, other, other, other, other}
			if mac.Group(m) != (first%2 == 1) {
				t.Errorf("Group(%x)", m)
			}
		}
	}
	if !mac.Group(mac.All()) || !mac.Group(mac.Own()) || mac.Group(api.Mac{}) {
		t.Error("everybody's, the bridge's own, the zero address")
	}
}

// P2.2: 00 to 0f are reserved.
func TestReserved(t *testing.T) {
	for last := range 256 {
		m := near(byte(last))
		if mac.Reserved(m) != (last <= 0x0f) {
			t.Errorf("Reserved(%x)", m)
		}
		for _, x := range beside(m) {
			if mac.Reserved(x) {
				t.Errorf("Reserved(%x)", x)
			}
		}
	}
	if mac.Reserved(api.Mac{}) || mac.Reserved(mac.All()) {
		t.Error("the zero address, everybody's")
	}
}

// P2.3
func TestNumber(t *testing.T) {
	cases := []struct {
		m api.Mac
		n uint64
	}{
		{api.Mac{}, 0},
		{api.Mac{0, 0, 0, 0, 0, 1}, 1},
		{api.Mac{0, 0, 0, 0, 1, 2}, 258},
		{api.Mac{1, 0, 0, 0, 0, 0}, 1 << 40},
		{api.Mac{0x80, 0, 0, 0, 0, 0}, 1 << 47},
		{api.Mac{0x89, 0xab, 0xcd, 0xef, 0x01, 0x23}, 0x89abcdef0123},
		{mac.Own(), 0x0180c2000000},
		{mac.All(), 1<<48 - 1},
	}
	for _, c := range cases {
		if got := mac.Number(c.m); got != c.n {
			t.Errorf("Number(%x) = %x", c.m, got)
		}
		if got, is := mac.Of(c.n); got != c.m || !is {
			t.Errorf("Of(%x) = %x, %t", c.n, got, is)
		}
	}
}

// P2.3: from 2^48 on there is none, whatever the bits below.
func TestOfTooGreat(t *testing.T) {
	for bit := 48; bit < 64; bit++ {
		for _, low := range []uint64{0, 1, 0x89abcdef0123, 1<<48 - 1} {
			n := uint64(1)<<bit | low
			if m, is := mac.Of(n); m != (api.Mac{}) || is {
				t.Errorf("Of(%x) = %x, %t", n, m, is)
			}
		}
	}
	if m, is := mac.Of(math.MaxUint64); m != (api.Mac{}) || is {
		t.Errorf("Of(2^64 - 1) = %x, %t", m, is)
	}
}

func checkParse(t *testing.T, s string, want api.Mac, is bool) {
	t.Helper()
	if got, gotIs := mac.Parse(s); got != want || gotIs != is {
		t.Errorf("Parse(%q) = %x, %t", s, got, gotIs)
	}
}

// P2.4
func TestText(t *testing.T) {
	cases := []struct {
		m api.Mac
		s string
	}{
		{api.Mac{}, "00:00:00:00:00:00"},
		{mac.Own(), "01:80:c2:00:00:00"},
		{mac.All(), "ff:ff:ff:ff:ff:ff"},
		{api.Mac{0x02, 0, 0, 0, 0x0a, 0xff}, "02:00:00:00:0a:ff"},
		{api.Mac{0x01, 0x23, 0x45, 0x67, 0x89, 0xab}, "01:23:45:67:89:ab"},
		{api.Mac{0xfe, 0xdc, 0xba, 0x98, 0x76, 0x54}, "fe:dc:ba:98:76:54"},
	}
	for _, c := range cases {
		if got := mac.Text(c.m); got != c.s {
			t.Errorf("Text(%x) = %q", c.m, got)
		}
		checkParse(t, c.s, c.m, true)
	}
	check, _ := mac.Check(7)
	trace, _ := mac.Trace(0)
	if mac.Text(check) != "01:80:c2:00:00:37" || mac.Text(trace) != "01:80:c2:00:00:38" {
		t.Error("the chapter's examples")
	}
}

// P2.4
func TestParseNone(t *testing.T) {
	for _, s := range []string{
		"",
		":",
		":::::",
		"01:80:C2:00:00:00",
		"FF:FF:FF:FF:FF:FF",
		"01-80-c2-00-00-00",
		"0180c2000000",
		"0180.c200.0000",
		"1:80:c2:0:0:0",
		"001:80:c2:0:00:00",
		"01:80:c2:00:00",
		"01:80:c2:00:00:",
		"01:80:c2:00:00:00:",
		"01:80:c2:00:00:00:00",
		":01:80:c2:00:00:0",
		" 01:80:c2:00:00:00",
		"01:80:c2:00:00:00 ",
		"01:80:c2:00:00:00\n",
		" 1:80:c2:00:00:00",
		"+1:80:c2:00:00:00",
		"-1:80:c2:00:00:00",
		"0x:80:c2:00:00:00",
		"0_:80:c2:00:00:00",
		"é1:80:c2:00:00:0",
		"01:80:c2:00:00:é",
		"\xff\xff:80:c2:00:00:00",
		"\x00\x00:00:00:00:00:00",
		strings.Repeat("0", 17),
		strings.Repeat(":", 17),
		strings.Repeat("01:80:c2:00:00:00", 2),
	} {
		checkParse(t, s, api.Mac{}, false)
	}
}

// P2.4: of all bytes that may stand at a place, just those of a text are taken, and of all lengths just one.
func TestParseEachPlace(t *testing.T) {
	const s = "01:9a:bc:de:f3:58"
	const digits = "0123456789abcdef"
	whole, _ := mac.Parse(s)
	for place := range s {
		for b := range 256 {
			x := s[:place] + string([]byte{byte(b)}) + s[place+1:]
			if place%3 == 2 {
				checkPlace(t, x, whole, b == ':')
				continue
			}
			want, digit := whole, strings.IndexByte(digits, byte(b))
			if place%3 == 0 {
				want[place/3] = byte(digit)<<4 | whole[place/3]&0x0f
			} else {
				want[place/3] = byte(digit) | whole[place/3]&0xf0
			}
			checkPlace(t, x, want, digit >= 0)
		}
		checkParse(t, s[:place], api.Mac{}, false)
		checkParse(t, s+s[:place+1], api.Mac{}, false)
	}
}

// checkPlace holds that a text is taken just if it is one.
func checkPlace(t *testing.T, s string, m api.Mac, is bool) {
	t.Helper()
	if !is {
		m = api.Mac{}
	}
	checkParse(t, s, m, is)
}

// P2.5: numbers and addresses, texts and addresses, answer each other.
func TestThereAndBack(t *testing.T) {
	rnd := rand.New(rand.NewPCG(2, 5))
	for range 5000 {
		m := someMac(rnd)
		if back, is := mac.Of(mac.Number(m)); back != m || !is {
			t.Fatalf("Of(Number(%x)) = %x, %t", m, back, is)
		}
		if back, is := mac.Parse(mac.Text(m)); back != m || !is {
			t.Fatalf("Parse(Text(%x)) = %x, %t", m, back, is)
		}
		n := rnd.Uint64() >> 16
		if at, is := mac.Of(n); mac.Number(at) != n || !is {
			t.Fatalf("Number(Of(%x)) = %x, %t", n, mac.Number(at), is)
		}
	}
}

// P2.5: addresses that are unlike each other have unlike numbers, of one order with them, and unlike texts.
func TestUnlike(t *testing.T) {
	rnd := rand.New(rand.NewPCG(5, 2))
	for range 5000 {
		x, y := someMac(rnd), someMac(rnd)
		copy(y[:rnd.IntN(7)], x[:])
		order := strings.Compare(string(x[:]), string(y[:]))
		if (mac.Number(x) < mac.Number(y)) != (order < 0) || (mac.Number(x) == mac.Number(y)) != (order == 0) {
			t.Fatalf("numbers of %x and %x", x, y)
		}
		if strings.Compare(mac.Text(x), mac.Text(y)) != order {
			t.Fatalf("texts of %x and %x", x, y)
		}
	}
}

// P2.5: groups of levels are no reserved ones, and unlike each other; their levels answer them.
func TestGroupsOfLevelsStandApart(t *testing.T) {
	seen := map[api.Mac]bool{mac.All(): true, mac.Own(): true}
	for level := range uint8(8) {
		check, _ := mac.Check(level)
		trace, _ := mac.Trace(level)
		for _, m := range []api.Mac{check, trace} {
			if seen[m] {
				t.Errorf("%x came before", m)
			}
			seen[m] = true
			if mac.Reserved(m) || !mac.Group(m) {
				t.Errorf("%x: reserved %t, a group's %t", m, mac.Reserved(m), mac.Group(m))
			}
			checkLevel(t, m, level, true)
		}
	}
}
