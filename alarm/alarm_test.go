package alarm_test

import (
	"math/rand/v2"
	"slices"
	"testing"

	"viaduct/alarm"
	"viaduct/api"
)

// of is an alarm that defects from a lowest on concern.
func of(t *testing.T, lowest uint8) *alarm.Alarm {
	t.Helper()
	a, e := alarm.New(lowest)
	if a == nil || e != api.OK {
		t.Fatalf("New(%d) = %v, %d", lowest, a, e)
	}
	return a
}

// step is a tick: its defect, what is reported, and what the alarm is then.
type step struct {
	worst, report, state, told uint8
}

// checkSteps holds an alarm at first, and each tick's answers, one behind the other.
func checkSteps(t *testing.T, lowest uint8, steps ...step) {
	t.Helper()
	a := of(t, lowest)
	checkIs(t, a, alarm.Reset, 0)
	for i, s := range steps {
		if r := a.Tick(s.worst); r != s.report {
			t.Errorf("lowest %d, tick %d: Tick(%d) = %d, want %d", lowest, i, s.worst, r, s.report)
		}
		if a.State() != s.state || a.Told() != s.told {
			t.Errorf("lowest %d, tick %d: state %d, told %d; want %d, %d", lowest, i, a.State(), a.Told(), s.state, s.told)
		}
	}
}

func checkIs(t *testing.T, a *alarm.Alarm, state, told uint8) {
	t.Helper()
	if a.State() != state || a.Told() != told {
		t.Errorf("state %d, told %d; want %d, %d", a.State(), a.Told(), state, told)
	}
}

// reports are what is reported at each tick of such defects.
func reports(a *alarm.Alarm, defects ...uint8) []uint8 {
	var l []uint8
	for _, d := range defects {
		l = append(l, a.Tick(d))
	}
	return l
}

func checkReports(t *testing.T, lowest uint8, defects, want []uint8) {
	t.Helper()
	if l := reports(of(t, lowest), defects...); !slices.Equal(l, want) {
		t.Errorf("lowest %d, defects %d: reports %d, want %d", lowest, defects, l, want)
	}
}

// times is a row of n alike.
func times(n int, defect uint8) []uint8 {
	return slices.Repeat([]uint8{defect}, n)
}

// The chapter's examples.
func TestExamples(t *testing.T) {
	checkReports(t, 2, []uint8{2, 3, 3, 4}, []uint8{0, 3, 0, 4})
	checkReports(t, 2, []uint8{3, 1, 3, 3}, []uint8{0, 0, 0, 3})
	checkReports(t, 2,
		slices.Concat([]uint8{3, 3}, times(10, 0), []uint8{3, 3}),
		slices.Concat([]uint8{0, 3}, times(10, 0), []uint8{0, 3}))
}

// States, and numbers of ticks, are these.
func TestConstants(t *testing.T) {
	if l := []uint8{alarm.Reset, alarm.Defect, alarm.Reported}; !slices.Equal(l, []uint8{0, 1, 2}) {
		t.Errorf("states %d", l)
	}
	if alarm.Wait != 2 || alarm.Calm != 10 {
		t.Errorf("Wait %d, Calm %d", alarm.Wait, alarm.Calm)
	}
}

// P19.1: an alarm in the state Reset, of a lowest defect from 1 to 4; of any other none.
func TestNew(t *testing.T) {
	for n := range 256 {
		a, e := alarm.New(uint8(n))
		if n >= 1 && n <= 4 {
			if a == nil || e != api.OK {
				t.Errorf("New(%d) = %v, %d", n, a, e)
			}
			checkIs(t, a, alarm.Reset, 0)
		} else if a != nil || e != api.ErrArg {
			t.Errorf("New(%d) = %v, %d; want none, ErrArg", n, a, e)
		}
	}
}

// P19.2: a defect is there just from the lowest on, and what is above 4 counts as 4.
func TestThere(t *testing.T) {
	for lowest := uint8(1); lowest <= 4; lowest++ {
		for n := range 256 {
			d := uint8(n)
			if d < lowest {
				checkSteps(t, lowest, step{d, 0, alarm.Reset, 0}, step{d, 0, alarm.Reset, 0}, step{d, 0, alarm.Reset, 0})
				continue
			}
			r := min(d, 4)
			checkSteps(t, lowest, step{d, 0, alarm.Defect, 0}, step{d, r, alarm.Reported, r}, step{d, 0, alarm.Reported, r})
		}
	}
}

// P19.2: in Defect a defect waits; it is the last tick's that is reported, and one tick without
// any lets the count begin anew.
func TestDefect(t *testing.T) {
	checkSteps(t, 1, step{4, 0, alarm.Defect, 0}, step{1, 1, alarm.Reported, 1})
	checkSteps(t, 1, step{1, 0, alarm.Defect, 0}, step{200, 4, alarm.Reported, 4})
	checkSteps(t, 3,
		step{4, 0, alarm.Defect, 0},
		step{2, 0, alarm.Reset, 0},
		step{4, 0, alarm.Defect, 0},
		step{0, 0, alarm.Reset, 0},
		step{0, 0, alarm.Reset, 0},
		step{3, 0, alarm.Defect, 0},
		step{3, 3, alarm.Reported, 3})
}

// P19.2: in Reported just what is worse than all that was reported is, and at once.
func TestWorse(t *testing.T) {
	checkSteps(t, 1,
		step{1, 0, alarm.Defect, 0},
		step{1, 1, alarm.Reported, 1},
		step{2, 2, alarm.Reported, 2},
		step{1, 0, alarm.Reported, 2},
		step{2, 0, alarm.Reported, 2},
		step{0, 0, alarm.Reported, 2},
		step{3, 3, alarm.Reported, 3},
		step{255, 4, alarm.Reported, 4},
		step{5, 0, alarm.Reported, 4},
		step{4, 0, alarm.Reported, 4})
}

// P19.2, P19.3: Calm ticks in a row without a defect, and no fewer, let what was reported be
// forgotten; a defect below the lowest is none.
func TestCalm(t *testing.T) {
	for _, none := range []uint8{0, 1, 2} {
		a := of(t, 3)
		reports(a, 4, 4)
		for range 9 {
			reports(a, none)
			checkIs(t, a, alarm.Reported, 4)
		}
		reports(a, none)
		checkIs(t, a, alarm.Reset, 0)
		if l := reports(a, 3, 3); !slices.Equal(l, []uint8{0, 3}) {
			t.Errorf("behind ten of %d: reports %d", none, l)
		}
		checkIs(t, a, alarm.Reported, 3)
	}
}

// P19.2: any defect that is there, one that is not worse too, lets the calm ticks begin anew.
func TestCalmInARow(t *testing.T) {
	for _, d := range []uint8{2, 3, 4} {
		a := of(t, 2)
		reports(a, 3, 3)
		reports(a, times(9, 0)...)
		reports(a, d)
		told := max(d, 3)
		checkIs(t, a, alarm.Reported, told)
		reports(a, times(9, 1)...)
		checkIs(t, a, alarm.Reported, told)
		reports(a, 0)
		checkIs(t, a, alarm.Reset, 0)
	}
}

// P19.2: the ticks of a defect do not count as calm ones, however many they are.
func TestCalmFromTheReportOn(t *testing.T) {
	a := of(t, 1)
	reports(a, times(1000, 1)...)
	reports(a, times(9, 0)...)
	checkIs(t, a, alarm.Reported, 1)
	reports(a, 0)
	checkIs(t, a, alarm.Reset, 0)
}

// P19.3: asking changes nothing.
func TestAsk(t *testing.T) {
	a := of(t, 1)
	for _, s := range []step{{1, 0, alarm.Defect, 0}, {1, 1, alarm.Reported, 1}} {
		if r := a.Tick(s.worst); r != s.report {
			t.Errorf("Tick(%d) = %d", s.worst, r)
		}
		for range 20 {
			checkIs(t, a, s.state, s.told)
		}
	}
}

// P19.2, P19.3: an alarm that is none reports nothing, and is Reset.
func TestNil(t *testing.T) {
	var a *alarm.Alarm
	for range 3 {
		if r := a.Tick(4); r != 0 {
			t.Errorf("Tick(4) of nil = %d", r)
		}
		checkIs(t, a, alarm.Reset, 0)
	}
}

// R1: no call panics on an alarm that New did not make.
func TestHandMade(t *testing.T) {
	var a alarm.Alarm
	for n := range 256 {
		a.Tick(uint8(n))
		a.State()
		a.Told()
	}
}

// R2: what one alarm is told no other one knows.
func TestApart(t *testing.T) {
	a, b := of(t, 1), of(t, 1)
	reports(a, 4, 4)
	checkIs(t, b, alarm.Reset, 0)
	if l := reports(b, 2, 2); !slices.Equal(l, []uint8{0, 2}) {
		t.Errorf("reports %d", l)
	}
	checkIs(t, a, alarm.Reported, 4)
}

// thereIn tells which ticks have a defect that is there.
func thereIn(lowest uint8, defects []uint8) []bool {
	var l []bool
	for _, d := range defects {
		l = append(l, d >= lowest)
	}
	return l
}

// firstRow is the first place from one on at which n in a row are such, all from there on; or the
// row's length, if there is none.
func firstRow(l []bool, from, n int, such bool) int {
	for i := from + n - 1; i < len(l); i++ {
		if !slices.Contains(l[i-n+1:i+1], !such) {
			return i
		}
	}
	return len(l)
}

// model answers what follows from all the ticks at once: spans from a first report to where Calm
// ticks in a row end, and in them each defect that is above the ones ahead of it.
func model(lowest uint8, defects []uint8) (told []uint8, state, worst uint8) {
	l := thereIn(lowest, defects)
	told = make([]uint8, len(l))
	for from := 0; ; {
		first := firstRow(l, from, 2, true)
		if first == len(l) {
			if from < len(l) && l[len(l)-1] {
				return told, alarm.Defect, 0
			}
			return told, alarm.Reset, 0
		}
		end := firstRow(l, first+1, 10, false)
		worst = 0
		for i := first; i < end; i++ {
			if l[i] && min(defects[i], 4) > worst {
				worst = min(defects[i], 4)
				told[i] = worst
			}
		}
		if end == len(l) {
			return told, alarm.Reported, worst
		}
		from = end + 1
	}
}

// checkModel holds an alarm against the model, and what it reports against what follows.
func checkModel(t *testing.T, lowest uint8, defects []uint8) {
	t.Helper()
	a := of(t, lowest)
	got := reports(a, defects...)
	want, state, told := model(lowest, defects)
	if !slices.Equal(got, want) || a.State() != state || a.Told() != told {
		t.Fatalf("lowest %d, defects %d: reports %d, state %d, told %d; want %d, %d, %d",
			lowest, defects, got, a.State(), a.Told(), want, state, told)
	}
	checkFollows(t, lowest, defects, got)
}

// checkFollows holds what P19.4 says of reports.
func checkFollows(t *testing.T, lowest uint8, defects, told []uint8) {
	t.Helper()
	l := thereIn(lowest, defects)
	last := -1 // the last report's place
	for i, r := range told {
		calm := last < 0 || firstRow(l[:i], last+1, 10, false) < i
		if r != 0 {
			if !l[i] || r != min(defects[i], 4) {
				t.Fatalf("lowest %d, defects %d: tick %d reports %d", lowest, defects, i, r)
			}
			if calm && (i < 1 || !l[i-1]) {
				t.Fatalf("lowest %d, defects %d: tick %d did not wait", lowest, defects, i)
			}
			if !calm && r <= told[last] {
				t.Fatalf("lowest %d, defects %d: tick %d reports what was reported", lowest, defects, i)
			}
			last, calm = i, false
		}
		if i < 1 || !l[i-1] || !l[i] {
			continue
		}
		if calm || told[last] < min(defects[i-1], defects[i], 4) {
			t.Fatalf("lowest %d, defects %d: tick %d is not reported", lowest, defects, i)
		}
	}
}

// P19.2 to P19.4: every row of six ticks.
func TestEveryRow(t *testing.T) {
	for n := range 6 * 6 * 6 * 6 * 6 * 6 {
		var defects []uint8
		for range 6 {
			defects = append(defects, uint8(n%6))
			n /= 6
		}
		for lowest := uint8(1); lowest <= 4; lowest++ {
			checkModel(t, lowest, defects)
		}
	}
}

// P19.2 to P19.4: rows of runs, of which many without a defect are about as long as Calm.
func TestLongRows(t *testing.T) {
	r := rand.New(rand.NewPCG(19, 1))
	for range 3000 {
		lowest := uint8(1 + r.IntN(4))
		var defects []uint8
		for range 2 + r.IntN(30) {
			if r.IntN(2) == 0 {
				defects = append(defects, times(7+r.IntN(6), uint8(r.IntN(int(lowest))))...)
			} else {
				defects = append(defects, times(1+r.IntN(3), uint8(r.IntN(7)))...)
			}
		}
		checkModel(t, lowest, defects)
	}
}
