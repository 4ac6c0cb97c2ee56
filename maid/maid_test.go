package maid_test

import (
	"math/rand/v2"
	"strings"
	"testing"

	"viaduct/api"
	"viaduct/maid"
)

// most is how many bytes both names have at most.
const most = 44

// a and b are names of so many bytes.
func a(n int) string { return strings.Repeat("a", n) }
func b(n int) string { return strings.Repeat("b", n) }

// withNoughts are bytes, and noughts behind them, 48 in all.
func withNoughts(s string) string { return s + strings.Repeat("\x00", 48-len(s)) }

// some are names that may be, and their bytes.
var some = []struct {
	name        string
	domain, own string
	bytes       string
}{
	{"the chapter's, of no domain's name", "", "ab", withNoughts("\x01\x02\x02\x61\x62")},
	{"the chapter's, of both", "d", "a", withNoughts("\x04\x01\x64\x02\x01\x61")},
	{"unlike lengths", "dom", "one/two", withNoughts("\x04\x03dom\x02\x07one/two")},
	{"the least and the greatest bytes", "~ ", " ~~", withNoughts("\x04\x02~ \x02\x03 ~~")},
	{"noughts as letters", "0", "00", withNoughts("\x04\x010\x02\x0200")},
	{"an own name of 44", "", b(44), "\x01\x02\x2c" + b(44) + "\x00"},
	{"names of 22", a(22), b(22), "\x04\x16" + a(22) + "\x02\x16" + b(22)},
	{"names of 43 and 1", a(43), "b", "\x04\x2b" + a(43) + "\x02\x01b"},
	{"names of 1 and 43", "a", b(43), "\x04\x01a\x02\x2b" + b(43)},
	{"names of 43 in all", a(21), b(22), "\x04\x15" + a(21) + "\x02\x16" + b(22) + "\x00"},
}

func checkPut(t *testing.T, domain, own, want string, err api.Errno) {
	t.Helper()
	if got, e := maid.Put(domain, own); got != want || e != err {
		t.Errorf("Put(%q, %q) = %x, %d; want %x, %d", domain, own, got, e, want, err)
	}
}

func checkTake(t *testing.T, s, domain, own string, err api.Errno) {
	t.Helper()
	if d, o, e := maid.Take(s); d != domain || o != own || e != err {
		t.Errorf("Take(%x) = %q, %q, %d; want %q, %q, %d", s, d, o, e, domain, own, err)
	}
}

// isName tells of each byte what the chapter says of it.
func isName(s string) bool {
	for i := range len(s) {
		if s[i] < 32 || s[i] > 126 {
			return false
		}
	}
	return len(s) >= 1
}

// wrong is the error that the chapter asks for of names.
func wrong(domain, own string) api.Errno {
	switch {
	case domain != "" && !isName(domain), !isName(own):
		return api.ErrArg
	case len(domain)+len(own) > most:
		return api.ErrLong
	}
	return api.OK
}

// bytesOf are the bytes of names of less than 256 bytes each, may they be or
// not; of those that are too long for 48 bytes without noughts.
func bytesOf(domain, own string) string {
	s := "\x01"
	if domain != "" {
		s = "\x04" + string([]byte{byte(len(domain))}) + domain
	}
	s += "\x02" + string([]byte{byte(len(own))}) + own
	return s + strings.Repeat("\x00", max(0, 48-len(s)))
}

// checkNames holds that names are put, and their bytes are taken, just if they may be.
func checkNames(t *testing.T, domain, own string) {
	t.Helper()
	if e := wrong(domain, own); e != api.OK {
		checkPut(t, domain, own, "", e)
		checkTake(t, bytesOf(domain, own), "", "", api.ErrForm)
		return
	}
	checkPut(t, domain, own, bytesOf(domain, own), api.OK)
	checkTake(t, bytesOf(domain, own), domain, own, api.OK)
}

func TestSize(t *testing.T) {
	if maid.Size != 48 {
		t.Error(maid.Size)
	}
}

// P10.1, P10.2
func TestPutAndTake(t *testing.T) {
	for _, c := range some {
		t.Run(c.name, func(t *testing.T) {
			if len(c.bytes) != 48 || bytesOf(c.domain, c.own) != c.bytes {
				t.Fatal(len(c.bytes))
			}
			checkPut(t, c.domain, c.own, c.bytes, api.OK)
			checkTake(t, c.bytes, c.domain, c.own, api.OK)
		})
	}
}

// P10.1, P10.2: a name has bytes from 32 to 126, wherever in it they stand, whatever their letters are.
func TestBytesOfNames(t *testing.T) {
	for n := range 256 {
		c := string([]byte{byte(n)})
		for _, s := range []string{c, c + "x", "x" + c, "x" + c + "x", c + c, b(20) + c} {
			checkNames(t, "", s)
			checkNames(t, "d", s)
			checkNames(t, s, "d")
			checkNames(t, s, s)
		}
	}
	for _, s := range []string{"é", "aé", "日本", "\u0080", "\u00ff", "\ufffd", "\U0010ffff", "\xc3", "\xc3(", "\xed\xa0\x80", "a\x00b", "\x00", "a\n", "\t", "\x7f"} {
		checkPut(t, "", s, "", api.ErrArg)
		checkPut(t, s, "a", "", api.ErrArg)
		checkNames(t, s, "a")
		checkNames(t, "a", s)
	}
}

// P10.1: an own name must be, a domain's need not.
func TestNoName(t *testing.T) {
	checkPut(t, "", "", "", api.ErrArg)
	checkPut(t, "a", "", "", api.ErrArg)
	checkPut(t, a(44), "", "", api.ErrArg)
	checkPut(t, a(45), "", "", api.ErrArg) // ahead of ErrLong
	if _, e := maid.Put("", "a"); e != api.OK {
		t.Error(e)
	}
}

// P10.1, P10.2: of all lengths, 44 together may be, 45 not.
func TestLengths(t *testing.T) {
	for m := range 60 {
		for n := range 60 {
			checkNames(t, a(m), b(n))
		}
	}
	checkPut(t, "", b(45), "", api.ErrLong) // though its bytes would be 48
	checkTake(t, "\x01\x02\x2d"+b(45), "", "", api.ErrForm)
	checkPut(t, a(44), "b", "", api.ErrLong)
	checkPut(t, a(22), b(23), "", api.ErrLong)
	checkPut(t, a(23), b(22), "", api.ErrLong)
}

// P10.1: names too long for their length to be a byte are long, not as long as the byte left of it.
func TestFarTooLong(t *testing.T) {
	for _, n := range []int{255, 256, 257, 258, 300, 1 << 16, 1<<16 + 1, 1 << 20} {
		checkPut(t, "", b(n), "", api.ErrLong)
		checkPut(t, a(n), "b", "", api.ErrLong)
		checkPut(t, "a", b(n), "", api.ErrLong)
		checkPut(t, a(n), b(n), "", api.ErrLong)
	}
}

// P10.1: what may not be is told ahead of what is too long, in either name, however far behind.
func TestArgAheadOfLong(t *testing.T) {
	long := b(1000)
	for _, c := range []string{"\x1f", "\x7f", "\x00", "\xff", "é"} {
		checkPut(t, "", long+c, "", api.ErrArg)
		checkPut(t, "", c+long, "", api.ErrArg)
		checkPut(t, long+c, "a", "", api.ErrArg)
		checkPut(t, long, c, "", api.ErrArg)
		checkPut(t, c, long, "", api.ErrArg)
		checkPut(t, "a", long+c, "", api.ErrArg)
	}
	checkPut(t, long, "", "", api.ErrArg)
}

// P10.2: just 48 bytes are names', whatever they are.
func TestTakeOtherLengths(t *testing.T) {
	for _, c := range some {
		for n := range 48 {
			checkTake(t, c.bytes[:n], "", "", api.ErrForm)
			checkTake(t, c.bytes[n+1:], "", "", api.ErrForm)
		}
		for _, behind := range []string{"\x00", "x", "\x00\x00", strings.Repeat("\x00", 1<<16), c.bytes} {
			checkTake(t, c.bytes+behind, "", "", api.ErrForm)
		}
	}
	checkTake(t, "", "", "", api.ErrForm)
	checkTake(t, "\x01\x02\x01a", "", "", api.ErrForm)
	checkTake(t, "\x04\x01d\x02\x01a", "", "", api.ErrForm)
}

// P10.2: 48 bytes that are none of names that may be.
func TestTakeNone(t *testing.T) {
	for _, s := range []string{
		"",                               // noughts alone
		"\x00\x02\x01a",                  // no mark
		"\x02\x01a",                      // no mark of a domain's name
		"\x01",                           // no own name
		"\x04\x01d",                      // no own name
		"\x01\x02\x00",                   // an own name of no bytes
		"\x04\x01d\x02\x00",              // the same
		"\x04\x00\x02\x01a",              // a domain's name of no bytes
		"\x01\x00\x02\x01a",              // none has no length
		"\x01\x01d\x02\x01a",             // none has no bytes
		"\x03\x01d\x02\x01a",             // another mark
		"\x05\x01d\x02\x01a",             // another mark
		"\x84\x01d\x02\x01a",             // another mark
		"\x01\x01\x01a",                  // another mark of the own name
		"\x01\x04\x01a",                  // the same
		"\x04\x01d\x04\x01a",             // a domain's name twice
		"\x02\x01a\x04\x01d",             // the wrong way round
		"\x01\x02\x01ab",                 // a byte behind
		"\x01\x02\x01a\x00b",             // a byte behind noughts
		"\x01\x02\x01a\x02\x01a",         // an own name twice
		"\x01\x02\x03ab",                 // a nought in a name
		"\x01\x02\x02a\n",                // a byte that no name has
		"\x04\x01\x7f\x02\x01a",          // the same
		"\x04\x02\xc3\xa9\x02\x01a",      // the same
		"\x01\x02\x2e" + b(45),           // longer than all
		"\x01\x02\xff" + b(45),           // longer than all
		"\x04\xff" + a(46),               // longer than all
		"\x04\x2e" + a(46),               // no room for an own name
		"\x04\x2d" + a(45) + "\x02",      // the same
		"\x04\x2c" + a(44) + "\x02\x00",  // the same
		"\x04\x2c" + a(44) + "\x02\x01",  // the own name's byte is beyond
		"\x04\x16" + a(22) + "\x02\x17b", // the same
		"\x04\x29" + a(41) + "\x02\x02b", // a nought in a name
	} {
		checkTake(t, withNoughts(s), "", "", api.ErrForm)
	}
	checkTake(t, strings.Repeat("\xff", 48), "", "", api.ErrForm)
	checkTake(t, strings.Repeat("a", 48), "", "", api.ErrForm)
	checkTake(t, withNoughts("\x01\x02\x01a")[:47]+"\x01", "", "", api.ErrForm)
	checkTake(t, withNoughts("\x01\x02\x01a")[:47]+"a", "", "", api.ErrForm)
}

// P10.2, P10.3: all that may stand at a place: what is taken is names' that may be, and has those bytes.
func TestTakeEachByte(t *testing.T) {
	for _, c := range some {
		taken := 0
		for place := range 48 {
			for n := range 256 {
				s := c.bytes[:place] + string([]byte{byte(n)}) + c.bytes[place+1:]
				domain, own, e := maid.Take(s)
				if e != api.OK {
					checkTake(t, s, "", "", api.ErrForm)
					continue
				}
				taken++
				checkPut(t, domain, own, s, api.OK)
			}
		}
		// At a place of a name any byte of a name; at any other one its own byte alone.
		names := len(c.domain) + len(c.own)
		if taken != 95*names+48-names {
			t.Errorf("%s: %d were taken", c.name, taken)
		}
	}
}

// someName is a name of so many bytes.
func someName(rnd *rand.Rand, n int) string {
	out := make([]byte, n)
	for i := range out {
		out[i] = byte(32 + rnd.IntN(95))
	}
	return string(out)
}

// someNames may be: mostly they are short, so that like ones come too.
func someNames(rnd *rand.Rand) (string, string) {
	all := 1 + rnd.IntN(most)
	if rnd.IntN(2) == 0 {
		all = 1 + rnd.IntN(3)
	}
	own := 1 + rnd.IntN(all)
	return someName(rnd, all-own), someName(rnd, own)
}

// P10.3: what is put is taken; unlike names have unlike bytes.
func TestPutThenTake(t *testing.T) {
	rnd := rand.New(rand.NewPCG(10, 3))
	seen := map[string][2]string{}
	for range 50000 {
		domain, own := someNames(rnd)
		checkNames(t, domain, own)
		s, _ := maid.Put(domain, own)
		if before, is := seen[s]; is && before != [2]string{domain, own} {
			t.Fatalf("%q and %q, %q: %x", before, domain, own, s)
		}
		seen[s] = [2]string{domain, own}
	}
	if len(seen) < 20000 || len(seen) > 49000 {
		t.Errorf("%d unlike names", len(seen))
	}
}

// P10.3: names of the same bytes, parted otherwise, are unlike.
func TestPartedOtherwise(t *testing.T) {
	const all = "ab\x04cd\x02 ef"
	for _, letters := range []string{"aaaa", "abcdef", "12 12 "} {
		seen := map[string]bool{}
		for n := range len(letters) {
			s, e := maid.Put(letters[:n], letters[n:])
			if e != api.OK || seen[s] {
				t.Errorf("%q, %q: %x, %d", letters[:n], letters[n:], s, e)
			}
			seen[s] = true
		}
	}
	for n := range len(all) {
		checkPut(t, all[:n], all[n:], "", api.ErrArg)
	}
}

// P10.3: whatever bytes are taken are put as themselves; all others are none.
func TestTakeThenPut(t *testing.T) {
	rnd := rand.New(rand.NewPCG(3, 10))
	taken := 0
	for range 50000 {
		s := []byte(bytesOf(someNames(rnd)))
		for range rnd.IntN(3) {
			s[rnd.IntN(len(s))] ^= 1 << rnd.IntN(8)
		}
		domain, own, e := maid.Take(string(s))
		if e != api.OK {
			checkTake(t, string(s), "", "", api.ErrForm)
			continue
		}
		taken++
		checkPut(t, domain, own, string(s), api.OK)
	}
	if taken < 15000 || taken > 45000 {
		t.Errorf("%d were taken", taken)
	}
}

// FuzzTake holds that all bytes are answered: those of names that may be by the names, all others by ErrForm.
func FuzzTake(f *testing.F) {
	for _, c := range some {
		f.Add(c.bytes)
		f.Add(c.bytes + "\x00")
		f.Add(c.bytes[1:])
	}
	f.Fuzz(func(t *testing.T, s string) {
		domain, own, e := maid.Take(s)
		if e != api.OK {
			checkTake(t, s, "", "", api.ErrForm)
			return
		}
		if wrong(domain, own) != api.OK || bytesOf(domain, own) != s {
			t.Errorf("Take(%x) = %q, %q", s, domain, own)
		}
	})
}

// FuzzPut holds that all texts are answered, as names or by the error that they ask for.
func FuzzPut(f *testing.F) {
	for _, c := range some {
		f.Add(c.domain, c.own)
		f.Add(c.own, c.domain+"\x1f")
	}
	f.Fuzz(func(t *testing.T, domain, own string) {
		if e := wrong(domain, own); e != api.OK {
			checkPut(t, domain, own, "", e)
			return
		}
		checkNames(t, domain, own)
	})
}
