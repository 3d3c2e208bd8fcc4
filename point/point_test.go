package point_test

import (
	"fmt"
	"math"
	"slices"
	"testing"

	"lockbar/api"
	"lockbar/point"
)

// The limits are written out here, so that a wrong one would be seen.
const (
	topTime = 1000
	rows    = 24
)

// rest is a machine at rest.
var rest = api.Machine{Want: -1, Run: 0, Fail: false}

// numbers are such as lie at the edges, far beyond them, and in between.
func numbers() []int {
	return []int{math.MinInt, math.MinInt + 1, math.MinInt32, -65536, -1001, -256, -2, -1, 0, 1, 2, 3, 23, 24, 25, 255, 256, 500, 998, 999, 1000, 1001, 1002, 65535, 65536, math.MaxInt32, math.MaxUint32, 1 << 32, 1<<32 + 1, 1 << 62, math.MaxInt - 1, math.MaxInt}
}

// roller gives numbers from 0 to below n by a rule of its own, so that they are the same each time.
func roller(seed uint32) func(n int) int {
	return func(n int) int {
		seed = seed*1664525 + 1013904223
		return int(seed>>16) % n
	}
}

// machines are those of all numbers, most of them such as may not be.
func machines() []api.Machine {
	var all []api.Machine
	for _, want := range numbers() {
		for _, run := range numbers() {
			all = append(all, api.Machine{Want: want, Run: run}, api.Machine{Want: want, Run: run, Fail: true})
		}
	}
	return all
}

// those are the machines that may be: one at rest, and those that were driven for these ticks.
func those(runs ...int) []api.Machine {
	all := []api.Machine{rest}
	for _, run := range runs {
		for _, want := range []int{0, 1} {
			all = append(all, api.Machine{Want: want, Run: run}, api.Machine{Want: want, Run: run, Fail: true})
		}
	}
	return all
}

// state is what a tick and a drive hang on beside the machine.
type state struct {
	at               int
	occupied, locked bool
}

// states are all of them, for points that stand here.
func states(ats ...int) []state {
	var all []state
	for _, at := range ats {
		for n := range 4 {
			all = append(all, state{at, n&1 == 1, n&2 == 2})
		}
	}
	return all
}

// open are the states in which nothing keeps a point that stands here.
func open(at int) state { return state{at: at} }

// The reference: the chapter's words, by other means than the package's.

// mayBe tells whether a machine may be: whether it is among those that the chapter names.
func mayBe(m api.Machine) bool {
	switch m.Want {
	case -1:
		return fmt.Sprint(m.Run, m.Fail) == "0 false"
	case 0, 1:
		return !(m.Run < 0) && !(m.Run > topTime)
	}
	return false
}

// calledTo is a machine that is called to a number.
func calledTo(m api.Machine, pos int) api.Machine {
	as, ok := map[int]api.Machine{0: {}, 1: {Want: 1}}[pos]
	switch {
	case !ok, !mayBe(m):
		return rest
	case m.Want != pos, m.Fail:
		return as
	}
	return m
}

// drivesTo is where a machine drives to.
func drivesTo(m api.Machine, s state) int {
	keeps := []bool{!mayBe(m), m.Want != 0 && m.Want != 1, s.at == m.Want, m.Fail, s.occupied, s.locked}
	if slices.Contains(keeps, true) {
		return -1
	}
	return m.Want
}

// behind is a machine behind a tick.
func behind(m api.Machine, s state, drive int) api.Machine {
	if !mayBe(m) || m.Want >= 0 && s.at == m.Want {
		return rest
	}
	if drivesTo(m, s) < 0 {
		return m
	}
	run := m.Run
	if run < topTime {
		run++
	}
	return api.Machine{Want: m.Want, Run: run, Fail: drive <= run}
}

// drives and pass are the package's, of a state.
func drives(m api.Machine, s state) int { return point.Drives(m, s.at, s.occupied, s.locked) }

func pass(m api.Machine, s state, drive int) api.Machine {
	return point.Pass(m, s.at, s.occupied, s.locked, drive)
}

// wantSame tells of a machine that is another one.
func wantSame(t *testing.T, what string, got, want api.Machine) {
	t.Helper()
	if got != want {
		t.Errorf("%s: got %v, want %v", what, got, want)
	}
}

// wantDrives tells of a machine that drives to where it should not.
func wantDrives(t *testing.T, m api.Machine, s state, want int) {
	t.Helper()
	if got := drives(m, s); got != want {
		t.Errorf("%v in %v drives to %d, want %d", m, s, got, want)
	}
}

// P16.1

func TestRest(t *testing.T) {
	wantSame(t, "Rest", point.Rest(), rest)
	if !point.Right(point.Rest()) {
		t.Error("one at rest may be")
	}
}

func TestLimitsAreThoseOfTheApi(t *testing.T) {
	if api.MaxTime != topTime || api.MaxSections != rows {
		t.Error("the limits are others")
	}
}

func TestRightByHand(t *testing.T) {
	for _, m := range []api.Machine{
		rest, {}, {Want: 1}, {Fail: true}, {Want: 1, Fail: true},
		{Run: 1}, {Want: 1, Run: 7}, {Run: 999}, {Want: 1, Run: 1000}, {Run: 1000, Fail: true}, {Want: 1, Run: 1, Fail: true},
	} {
		if !point.Right(m) {
			t.Errorf("%v may be", m)
		}
	}
	for _, m := range []api.Machine{
		// It wants nowhere, but was driven, or has failed.
		{Want: -1, Run: 1}, {Want: -1, Run: 1000}, {Want: -1, Run: -1}, {Want: -1, Fail: true}, {Want: -1, Run: 1, Fail: true},
		// It wants what no point has.
		{Want: -2}, {Want: 2}, {Want: 3, Run: 5}, {Want: 2, Fail: true}, {Want: math.MinInt}, {Want: math.MaxInt}, {Want: 256}, {Want: 1 << 32},
		// It was driven for less than no tick, or for longer than there is time.
		{Run: -1}, {Want: 1, Run: -1}, {Run: 1001}, {Want: 1, Run: 1001}, {Run: -1, Fail: true}, {Want: 1, Run: 1001, Fail: true}, {Run: math.MaxInt}, {Want: 1, Run: math.MinInt},
	} {
		if point.Right(m) {
			t.Errorf("%v may not be", m)
		}
	}
}

func TestRight(t *testing.T) {
	right := 0
	for _, m := range machines() {
		if got := point.Right(m); got != mayBe(m) {
			t.Errorf("Right of %v is %v", m, got)
		}
		if mayBe(m) {
			right++
		}
	}
	// One at rest, and those of thirteen numbers of ticks.
	if right != 1+13*4 {
		t.Errorf("%d may be", right)
	}
}

// All that are near those that may be.
func TestRightOfAllNear(t *testing.T) {
	right := 0
	for want := -4; want <= 4; want++ {
		for run := -4; run <= topTime+4; run++ {
			for _, fail := range []bool{false, true} {
				m := api.Machine{Want: want, Run: run, Fail: fail}
				got := point.Right(m)
				if got != mayBe(m) {
					t.Errorf("Right of %v is %v", m, got)
				}
				if got {
					right++
				}
			}
		}
	}
	if right != 1+4*(topTime+1) {
		t.Errorf("%d may be", right)
	}
}

func TestCallByHand(t *testing.T) {
	for i, x := range []struct {
		m    api.Machine
		pos  int
		want api.Machine
	}{
		// From rest.
		{rest, 0, api.Machine{}},
		{rest, 1, api.Machine{Want: 1}},
		{rest, -1, rest}, {rest, 2, rest},
		// What it wants already: it stays as it was, but if it has failed.
		{api.Machine{}, 0, api.Machine{}},
		{api.Machine{Run: 5}, 0, api.Machine{Run: 5}},
		{api.Machine{Want: 1, Run: 1000}, 1, api.Machine{Want: 1, Run: 1000}},
		{api.Machine{Run: 5, Fail: true}, 0, api.Machine{}},
		{api.Machine{Want: 1, Run: 1000, Fail: true}, 1, api.Machine{Want: 1}},
		{api.Machine{Want: 1, Fail: true}, 1, api.Machine{Want: 1}},
		// The other position: it begins anew.
		{api.Machine{Run: 5}, 1, api.Machine{Want: 1}},
		{api.Machine{Want: 1, Run: 5}, 0, api.Machine{}},
		{api.Machine{Run: 5, Fail: true}, 1, api.Machine{Want: 1}},
		{api.Machine{Want: 1, Run: 5, Fail: true}, 0, api.Machine{}},
		// No position: it comes to rest.
		{api.Machine{Run: 5}, -1, rest}, {api.Machine{Want: 1, Run: 5}, 2, rest}, {api.Machine{Want: 1, Fail: true}, -1, rest}, {api.Machine{}, math.MinInt, rest}, {api.Machine{}, math.MaxInt, rest},
		// Those that may not be: to whatever they are called.
		{api.Machine{Want: -1, Run: 1}, 0, rest}, {api.Machine{Want: -1, Fail: true}, 1, rest}, {api.Machine{Want: 2}, 1, rest}, {api.Machine{Want: 2}, 2, rest},
		{api.Machine{Run: -1}, 0, rest}, {api.Machine{Run: -1}, 1, rest}, {api.Machine{Want: 1, Run: 1001}, 1, rest}, {api.Machine{Want: 1, Run: 1001, Fail: true}, 0, rest}, {api.Machine{Want: -2}, -2, rest},
	} {
		wantSame(t, fmt.Sprint("case ", i), point.Call(x.m, x.pos), x.want)
	}
}

func TestCall(t *testing.T) {
	seen := map[string]int{}
	for _, m := range machines() {
		for _, pos := range numbers() {
			got := point.Call(m, pos)
			wantSame(t, fmt.Sprint(m, " called to ", pos), got, calledTo(m, pos))
			if pos == 0 || pos == 1 {
				seen[fmt.Sprint(mayBe(m), got == m, got.Want == pos)]++
			}
		}
	}
	// It stays; it begins anew; it may not be.
	for _, what := range []string{"true true true", "true false true", "false false false"} {
		if seen[what] < 20 {
			t.Errorf("too few: %s %d times", what, seen[what])
		}
	}
}

// Who calls a machine once more changes nothing: it is called, may be, has not failed.
func TestCalledTwice(t *testing.T) {
	for _, m := range machines() {
		for _, pos := range numbers() {
			once := point.Call(m, pos)
			wantSame(t, fmt.Sprint(m, " called twice to ", pos), point.Call(once, pos), calledTo(once, pos))
			if mayBe(m) && point.Call(once, pos) != once || !point.Right(once) || once.Fail {
				t.Errorf("%v called to %d is %v, then %v", m, pos, once, point.Call(once, pos))
			}
		}
	}
}

// P16.2

func TestExample(t *testing.T) {
	m := point.Pass(point.Call(point.Rest(), 1), 0, false, false, 1)
	wantSame(t, "called to 1, it stands at 0", m, api.Machine{Want: 1, Run: 1, Fail: true})
}

func TestDrivesByHand(t *testing.T) {
	for _, x := range []struct {
		m    api.Machine
		s    state
		want int
	}{
		{api.Machine{}, open(1), 0}, {api.Machine{}, open(-1), 0},
		{api.Machine{Want: 1}, open(0), 1}, {api.Machine{Want: 1}, open(-1), 1},
		{api.Machine{Run: 999}, open(1), 0}, {api.Machine{Want: 1, Run: 1000}, open(0), 1},
		// It stands there already.
		{api.Machine{}, open(0), -1}, {api.Machine{Want: 1}, open(1), -1}, {api.Machine{Want: 1, Run: 9}, open(1), -1},
		// It has failed.
		{api.Machine{Fail: true}, open(1), -1}, {api.Machine{Want: 1, Run: 5, Fail: true}, open(0), -1}, {api.Machine{Want: 1, Run: 5, Fail: true}, open(-1), -1},
		// It is occupied, locked, both.
		{api.Machine{}, state{1, true, false}, -1}, {api.Machine{}, state{1, false, true}, -1}, {api.Machine{}, state{1, true, true}, -1},
		{api.Machine{Want: 1}, state{-1, true, false}, -1}, {api.Machine{Want: 1}, state{-1, false, true}, -1}, {api.Machine{Want: 1}, state{0, true, true}, -1},
		// It wants nowhere.
		{rest, open(0), -1}, {rest, open(1), -1}, {rest, open(-1), -1}, {rest, state{0, true, true}, -1},
		// It may not be.
		{api.Machine{Run: -1}, open(1), -1}, {api.Machine{Want: 1, Run: 1001}, open(0), -1}, {api.Machine{Want: 2}, open(0), -1}, {api.Machine{Want: -2}, open(0), -1}, {api.Machine{Want: -1, Run: 3}, open(0), -1}, {api.Machine{Want: -1, Fail: true}, open(0), -1},
		// Where no point stands is not where it wants.
		{api.Machine{}, open(2), 0}, {api.Machine{Want: 1}, open(-2), 1}, {api.Machine{Want: 1}, open(math.MaxInt), 1}, {api.Machine{}, open(1 << 32), 0},
	} {
		wantDrives(t, x.m, x.s, x.want)
	}
}

func TestDrives(t *testing.T) {
	seen := map[int]int{}
	for _, m := range machines() {
		for _, s := range states(numbers()...) {
			wantDrives(t, m, s, drivesTo(m, s))
			seen[drives(m, s)]++
		}
	}
	if len(seen) != 3 || seen[0] < 300 || seen[1] < 300 {
		t.Errorf("too few: %v", seen)
	}
}

func TestPassByHand(t *testing.T) {
	for i, x := range []struct {
		m     api.Machine
		s     state
		drive int
		want  api.Machine
	}{
		// It drives: to the time to drive it has failed.
		{api.Machine{}, open(1), 3, api.Machine{Run: 1}},
		{api.Machine{Run: 1}, open(-1), 3, api.Machine{Run: 2}},
		{api.Machine{Run: 2}, open(1), 3, api.Machine{Run: 3, Fail: true}},
		{api.Machine{Want: 1, Run: 2}, open(0), 3, api.Machine{Want: 1, Run: 3, Fail: true}},
		{api.Machine{Want: 1}, open(0), 1, api.Machine{Want: 1, Run: 1, Fail: true}},
		{api.Machine{Want: 1, Run: 7}, open(0), 3, api.Machine{Want: 1, Run: 8, Fail: true}},
		{api.Machine{Want: 1, Run: 998}, open(0), 1000, api.Machine{Want: 1, Run: 999}},
		{api.Machine{Want: 1, Run: 999}, open(0), 1000, api.Machine{Want: 1, Run: 1000, Fail: true}},
		// At the top it stands still.
		{api.Machine{Want: 1, Run: 1000}, open(0), 1000, api.Machine{Want: 1, Run: 1000, Fail: true}},
		{api.Machine{Want: 1, Run: 1000}, open(0), 1001, api.Machine{Want: 1, Run: 1000}},
		{api.Machine{Want: 1, Run: 999}, open(0), 1001, api.Machine{Want: 1, Run: 1000}},
		// A time that may not be is held against as it stands.
		{api.Machine{}, open(1), 0, api.Machine{Run: 1, Fail: true}},
		{api.Machine{}, open(1), -1, api.Machine{Run: 1, Fail: true}},
		{api.Machine{}, open(1), math.MinInt, api.Machine{Run: 1, Fail: true}},
		{api.Machine{}, open(1), math.MaxInt, api.Machine{Run: 1}},
		// It stands there: at rest, whatever keeps it, and if it had failed, too.
		{api.Machine{Run: 2}, open(0), 3, rest},
		{api.Machine{Want: 1, Run: 2}, open(1), 3, rest},
		{api.Machine{Want: 1, Run: 2}, state{1, true, false}, 3, rest},
		{api.Machine{Want: 1, Run: 2}, state{1, false, true}, 3, rest},
		{api.Machine{Run: 2}, state{0, true, true}, 3, rest},
		{api.Machine{Run: 3, Fail: true}, open(0), 3, rest},
		{api.Machine{Want: 1, Run: 3, Fail: true}, state{1, true, true}, 3, rest},
		// It does not drive: it stays, at its time to drive, too.
		{api.Machine{Run: 2}, state{1, true, false}, 3, api.Machine{Run: 2}},
		{api.Machine{Run: 2}, state{1, false, true}, 3, api.Machine{Run: 2}},
		{api.Machine{Want: 1, Run: 5}, state{-1, true, true}, 3, api.Machine{Want: 1, Run: 5}},
		{api.Machine{Want: 1, Run: 3, Fail: true}, open(0), 3, api.Machine{Want: 1, Run: 3, Fail: true}},
		{api.Machine{Want: 1, Run: 1, Fail: true}, open(-1), 3, api.Machine{Want: 1, Run: 1, Fail: true}},
		{rest, open(0), 3, rest}, {rest, open(1), 1, rest}, {rest, open(-1), 0, rest}, {rest, state{-1, true, true}, 3, rest},
		// It may not be.
		{api.Machine{Run: -1}, open(1), 3, rest}, {api.Machine{Want: 1, Run: 1001}, open(0), 2000, rest}, {api.Machine{Want: 2}, open(0), 3, rest}, {api.Machine{Want: 2}, open(2), 3, rest},
		{api.Machine{Want: -1, Run: 1}, open(0), 3, rest}, {api.Machine{Want: -1, Fail: true}, state{-1, true, true}, 3, rest}, {api.Machine{Run: math.MaxInt}, open(1), 3, rest}, {api.Machine{Want: 1, Run: -1}, state{0, true, true}, 3, rest},
	} {
		wantSame(t, fmt.Sprint("case ", i), pass(x.m, x.s, x.drive), x.want)
	}
}

func TestPass(t *testing.T) {
	seen := map[string]int{}
	for _, m := range machines() {
		for _, s := range states(math.MinInt, -2, -1, 0, 1, 2, math.MaxInt) {
			for _, drive := range numbers() {
				got := pass(m, s, drive)
				wantSame(t, fmt.Sprint(m, " in ", s, " behind a tick, by ", drive), got, behind(m, s, drive))
				if mayBe(m) {
					seen[fmt.Sprint(got == m, got == rest, got.Fail)]++
				}
			}
		}
	}
	// It stays as it was, failed or not; comes to rest; drives; fails.
	for _, what := range []string{"true false true", "true false false", "false true false", "false false false", "false false true"} {
		if seen[what] < 300 {
			t.Errorf("too few: %s %d times", what, seen[what])
		}
	}
}

// Each time to drive by each number of ticks that it was driven.
func TestPassByTheTimeToDrive(t *testing.T) {
	for drive := 1; drive <= topTime; drive++ {
		for _, run := range []int{0, 1, drive - 2, drive - 1, drive, drive + 1, topTime - 1, topTime} {
			if run < 0 || run > topTime {
				continue
			}
			more := min(run+1, topTime)
			wantSame(t, fmt.Sprint("by ", drive), point.Pass(api.Machine{Want: 1, Run: run}, -1, false, false, drive), api.Machine{Want: 1, Run: more, Fail: more >= drive})
		}
	}
}

// P16.3

func TestBitsByHand(t *testing.T) {
	for _, x := range []struct {
		l               []int
		normal, reverse uint32
	}{
		{nil, 0, 0}, {[]int{}, 0, 0},
		{[]int{0}, 1, 0}, {[]int{1}, 0, 1}, {[]int{-1}, 0, 0}, {[]int{2}, 0, 0},
		{[]int{0, 1}, 1, 2}, {[]int{1, 0}, 2, 1}, {[]int{1, 1}, 0, 3}, {[]int{0, 0}, 3, 0},
		{[]int{-1, 0, -1, 1, 0}, 18, 8}, {[]int{3, -2, 256, 1 << 32, 1<<32 + 1, 1, 0}, 64, 32},
		{[]int{math.MinInt, 1, math.MaxInt, 0}, 8, 2},
		{slices.Repeat([]int{0}, 24), 0xffffff, 0}, {slices.Repeat([]int{1}, 24), 0, 0xffffff}, {slices.Repeat([]int{0, 1}, 12), 0x555555, 0xaaaaaa},
		{slices.Repeat([]int{0}, 23), 0x7fffff, 0}, {slices.Repeat([]int{1}, 25), 0, 0xffffff}, {slices.Repeat([]int{1, 0}, 40), 0xaaaaaa, 0x555555},
	} {
		if n, r := point.Bits(x.l...); n != x.normal || r != x.reverse {
			t.Errorf("of %v: %b, %b, want %b, %b", x.l, n, r, x.normal, x.reverse)
		}
	}
	if n, r := point.Bits(); n != 0 || r != 0 {
		t.Errorf("of nothing: %b, %b", n, r)
	}
}

// One number in a row of others, at each place, there and behind those that count.
func TestEachPlaceByItself(t *testing.T) {
	for many := 1; many <= 70; many++ {
		for place := range many {
			for _, n := range []int{0, 1, 2, -2} {
				l := slices.Repeat([]int{-1}, many)
				l[place] = n
				var want [2]uint32
				if place < rows && (n == 0 || n == 1) {
					want[n] = 1 << place
				}
				if a, b := point.Bits(l...); a != want[0] || b != want[1] {
					t.Errorf("%d at place %d of %d: %b, %b", n, place, many, a, b)
				}
			}
		}
	}
}

// text are bits as they are written, by places.
func text(bits uint32) string {
	all := []byte(fmt.Sprintf("%032b", bits))
	slices.Reverse(all)
	return string(all)
}

// Rows of all sorts of numbers, and of few.
func TestBits(t *testing.T) {
	roll := roller(9)
	for n := range 3000 {
		var l []int
		want := [2][]byte{[]byte(text(0)), []byte(text(0))}
		for place := range roll(33) {
			x := []int{-1, 0, 1, roll(5) - 2, numbers()[roll(len(numbers()))]}[roll(5)]
			l = append(l, x)
			if place < rows && (x == 0 || x == 1) {
				want[x][place] = '1'
			}
		}
		a, b := point.Bits(l...)
		if text(a) != string(want[0]) || text(b) != string(want[1]) || a&b != 0 {
			t.Errorf("row %d, %v: %b, %b, want %s, %s", n, l, a, b, want[0], want[1])
		}
	}
}

// P16.4

// A machine that is called, and that nothing keeps, drives for just the time to drive; then it has failed, and drives no more.
func TestDrivesForItsTime(t *testing.T) {
	for drive := 1; drive <= topTime; drive++ {
		pos := drive % 2
		m := point.Call(rest, pos)
		for n := range drive {
			s := open([]int{-1, 1 - pos}[n/3%2])
			if m.Fail || drives(m, s) != pos {
				t.Fatalf("of %d ticks, behind %d: %v", drive, n, m)
			}
			m = pass(m, s, drive)
		}
		for range 5 {
			wantSame(t, fmt.Sprint("behind ", drive, " ticks"), m, api.Machine{Want: pos, Run: drive, Fail: true})
			wantDrives(t, m, open(-1), -1)
			wantDrives(t, m, open(1-pos), -1)
			m = pass(m, open(-1), drive)
		}
		wantSame(t, "it stands there", pass(m, open(pos), drive), rest)
	}
}

// A machine whose point comes to stand where it wants is at rest, behind however few ticks.
func TestComesToRest(t *testing.T) {
	for drive := 1; drive <= 40; drive++ {
		for after := range drive + 3 {
			for _, s := range states(1) {
				m := point.Call(point.Rest(), 1)
				for range after {
					m = pass(m, open(-1), drive)
				}
				if m.Fail != (after >= drive) {
					t.Errorf("of %d ticks, behind %d: %v", drive, after, m)
				}
				wantDrives(t, m, s, -1)
				wantSame(t, "it stands there", pass(m, s, drive), rest)
				wantSame(t, "and stays", pass(pass(m, s, drive), open(0), drive), rest)
			}
		}
	}
}

// What keeps a point puts off its driving, and is not counted.
func TestWhatKeepsIsNotCounted(t *testing.T) {
	for drive := 1; drive <= 30; drive++ {
		m, driven := point.Call(rest, 0), 0
		for n := range 5 * drive {
			s := states(-1, 1)[n*5%8]
			if drives(m, s) == 0 {
				driven++
			} else if !m.Fail {
				wantSame(t, "kept", pass(m, s, drive), m)
			}
			m = pass(m, s, drive)
			if m.Run != driven || m.Fail != (driven >= drive) {
				t.Errorf("of %d ticks, driven for %d: %v", drive, driven, m)
			}
		}
		if driven != drive {
			t.Errorf("of %d ticks: driven for %d", drive, driven)
		}
	}
}

// To be called to the same in each tick does not put off failing.
func TestCalledAgainAndAgain(t *testing.T) {
	for drive := 1; drive <= 50; drive++ {
		m := rest
		for n := range 3 * drive {
			m = point.Call(m, 1)
			if m.Run != n%drive || m.Fail {
				t.Fatalf("of %d ticks, behind %d: %v", drive, n, m)
			}
			m = pass(m, open(0), drive)
			if m.Fail != ((n+1)%drive == 0) {
				t.Errorf("of %d ticks, behind %d: %v", drive, n, m)
			}
		}
	}
}

// Tales of calls and ticks: an onlooker counts the ticks in which it drives.
func TestTales(t *testing.T) {
	seen := map[string]int{}
	for seed := range uint32(400) {
		roll := roller(seed)
		drive := 1 + roll(9)
		m, at, driven := rest, -1, 0
		for n := range 300 {
			if roll(12) == 0 {
				pos := roll(4) - 1
				// Behind a call that changes it it has all of its time.
				if next := point.Call(m, pos); next != m {
					m, driven = next, 0
				}
				seen["call"]++
			}
			if roll(4) == 0 {
				at = roll(3) - 1
			}
			s := state{at, roll(6) == 0, roll(6) == 0}
			to := drives(m, s)
			if to != -1 {
				driven++
				if s.occupied || s.locked || to == s.at || to != m.Want || m.Fail {
					t.Fatalf("seed %d, tick %d: %v in %v drives to %d", seed, n, m, s, to)
				}
			}
			was := m
			m = pass(m, s, drive)
			if driven > drive || driven == drive && !m.Fail && m != rest || m.Fail && driven < drive || !point.Right(m) {
				t.Fatalf("seed %d, tick %d, driven for %d of %d: %v", seed, n, driven, drive, m)
			}
			if m == rest {
				driven = 0
			}
			seen[fmt.Sprint(to != -1, m.Fail && !was.Fail, m == rest && was != rest, m == was)]++
		}
	}
	// Called; driven on; failed; come to rest; kept, at rest, or failed before.
	for _, what := range []string{"call", "true false false false", "true true false false", "false false true false", "false false false true"} {
		if seen[what] < 1000 {
			t.Errorf("too few: %s %d times", what, seen[what])
		}
	}
	if len(seen) != 5 {
		t.Errorf("what may not be was seen: %v", seen)
	}
}

// No machine drives in a state that keeps its point, and none but those that may be: of all there are.
func TestNeverDrivesWhatIsKept(t *testing.T) {
	var runs []int
	for run := range topTime + 1 {
		runs = append(runs, run)
	}
	for _, m := range append(those(runs...), machines()...) {
		for _, s := range states(-1, 0, 1, 2) {
			to := drives(m, s)
			if to != -1 && (s.occupied || s.locked || s.at == to || m.Fail || !mayBe(m) || to != m.Want) {
				t.Errorf("%v in %v drives to %d", m, s, to)
			}
		}
	}
}

// Behind a tick and behind a call each machine may be.
func TestTicksMakeMachinesThatMayBe(t *testing.T) {
	for _, m := range machines() {
		for _, s := range states(-1, 0, 1, 7) {
			for _, drive := range numbers() {
				if got := pass(m, s, drive); !point.Right(got) {
					t.Errorf("%v in %v, by %d, is %v, which may not be", m, s, drive, got)
				}
			}
		}
	}
}

// R1, R3, R4 (R1's wrong numbers: all of the above; R2: no call answers an error)

func TestLongListsEnd(t *testing.T) {
	const many = 200000
	for _, x := range []struct{ by, normal, reverse uint32 }{{0, 0xffffff, 0}, {1, 0, 0xffffff}, {2, 0, 0}} {
		if n, r := point.Bits(slices.Repeat([]int{int(x.by)}, many)...); n != x.normal || r != x.reverse {
			t.Errorf("of many of %d: %b, %b", x.by, n, r)
		}
	}
	m := api.Machine{Want: 1}
	for range many {
		m = point.Pass(m, 0, false, false, math.MaxInt)
	}
	wantSame(t, "behind many ticks", m, api.Machine{Want: 1, Run: topTime})
}

func TestNilIsEmpty(t *testing.T) {
	for _, l := range [][]int{nil, {}, make([]int, 0, 30)} {
		if n, r := point.Bits(l...); n != 0 || r != 0 {
			t.Errorf("of nothing: %b, %b", n, r)
		}
	}
}

// tell is what all calls tell of machines, as text.
func tell(some ...api.Machine) string {
	all := fmt.Sprint(point.Rest())
	var l []int
	for _, m := range some {
		all += fmt.Sprintln(point.Right(m), point.Call(m, -1), point.Call(m, 0), point.Call(m, 1))
		for _, s := range states(-1, 0, 1) {
			all += fmt.Sprintln(drives(m, s), pass(m, s, 5), pass(m, s, 1))
			l = append(l, drives(m, s))
		}
	}
	return all + fmt.Sprintln(point.Bits(l...))
}

func TestAnswersHangOnTheirArgumentsAlone(t *testing.T) {
	some := append(those(0, 3, 4, 5, 1000), api.Machine{Want: 2}, api.Machine{Run: -1})
	was := tell(some...)
	for n, m := range machines() {
		tell(m)
		if n%40 > 0 {
			continue
		}
		if now := tell(some...); now != was {
			t.Fatalf("behind calls by %v: %s, then %s", m, was, now)
		}
	}
}

// Numbers that were handed in stay, what stands behind them, too, and does not count.
func TestNumbersStay(t *testing.T) {
	roll := roller(5)
	for n := range 300 {
		big := make([]int, 60)
		for i := range big {
			big[i] = roll(4) - 1
		}
		was := slices.Clone(big)
		a, b := point.Bits(big[:n%40]...)
		if !slices.Equal(big, was) {
			t.Errorf("%v has changed to %v", was, big)
		}
		if a>>(n%40) != 0 || b>>(n%40) != 0 {
			t.Errorf("of %d numbers: %b, %b", n%40, a, b)
		}
	}
}

// What is changed behind a call is not told by the next one of the old.
func TestNothingIsKept(t *testing.T) {
	m := point.Rest()
	m.Want, m.Run, m.Fail = 1, 4, true
	wantSame(t, "Rest", point.Rest(), rest)
	kept := m
	again := point.Call(m, 1)
	again.Run = 9
	wantSame(t, "what was called", m, kept)
	wantSame(t, "Call", point.Call(m, 1), api.Machine{Want: 1})
	l := []int{0, 1}
	a, b := point.Bits(l...)
	l[0] = 1
	if c, d := point.Bits(l...); a != 1 || b != 2 || c != 0 || d != 3 {
		t.Errorf("%b, %b, then %b, %b", a, b, c, d)
	}
}
