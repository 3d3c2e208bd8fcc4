package tick_test

import (
	"math"
	"testing"

	"lockbar/api"
	"lockbar/tick"
)

// The tops are written out here, so that a wrong one would be seen.
const (
	topClock = 1073741824
	topCount = 65535
)

// numbers are such as lie at the edges, far beyond them, and in between.
func numbers() []int {
	all := []int{math.MinInt, math.MinInt + 1, math.MinInt32, -65536, -5, -2, -1, math.MaxInt32, math.MaxUint32, 1 << 40, 1 << 62, math.MaxInt - 1, math.MaxInt}
	for _, mid := range []int{0, 9, 255, 1000, topCount, topCount / 2, topClock, topClock / 2} {
		all = append(all, mid-1, mid, mid+1)
	}
	return all
}

// counted is what n counts as, by another way than the package's.
func counted(n, top int) int {
	switch {
	case n < 0:
		return 0
	case n > top:
		return top
	}
	return n
}

// wantNumber tells of a call that answers another number.
func wantNumber(t *testing.T, what string, by []int, got, want int) {
	t.Helper()
	if got != want {
		t.Errorf("%s of %v: got %d, want %d", what, by, got, want)
	}
}

// P3.1

func TestExamples(t *testing.T) {
	wantNumber(t, "Next", []int{0}, tick.Next(0), 1)
	wantNumber(t, "Next", []int{1 << 30}, tick.Next(1<<30), 1<<30)
	wantNumber(t, "More", []int{65530, 9}, tick.More(65530, 9), 65535)
}

func TestLimitsAreThoseOfTheApi(t *testing.T) {
	wantNumber(t, "Clock", []int{math.MaxInt}, tick.Clock(math.MaxInt), api.MaxTick)
	wantNumber(t, "Count", []int{math.MaxInt}, tick.Count(math.MaxInt), api.MaxCount)
}

func TestClock(t *testing.T) {
	for _, n := range numbers() {
		wantNumber(t, "Clock", []int{n}, tick.Clock(n), counted(n, topClock))
	}
}

func TestNext(t *testing.T) {
	for _, x := range [][2]int{
		{math.MinInt, 1}, {-2, 1}, {-1, 1}, {0, 1}, {1, 2}, {8, 9}, {65534, 65535}, {65535, 65536}, {65536, 65537},
		{topClock - 2, topClock - 1}, {topClock - 1, topClock}, {topClock, topClock}, {topClock + 1, topClock}, {math.MaxInt, topClock},
	} {
		wantNumber(t, "Next", x[:1], tick.Next(x[0]), x[1])
	}
	for _, n := range numbers() {
		wantNumber(t, "Next", []int{n}, tick.Next(n), counted(counted(n, topClock)+1, topClock))
	}
}

func TestCount(t *testing.T) {
	for _, n := range numbers() {
		wantNumber(t, "Count", []int{n}, tick.Count(n), counted(n, topCount))
	}
}

func TestMore(t *testing.T) {
	for _, x := range [][3]int{
		{0, 0, 0}, {0, 5, 5}, {3, 4, 7}, {0, 65534, 65534}, {0, 65535, 65535}, {0, 65536, 65535}, {1, 65534, 65535}, {1, 65535, 65535},
		{65534, 0, 65534}, {65534, 1, 65535}, {65534, 2, 65535}, {65535, 0, 65535}, {65535, 1, 65535}, {65535, math.MaxInt, 65535},
		{7, -1, 7}, {7, -7, 7}, {7, math.MinInt, 7}, {0, -1, 0}, {65535, -1, 65535},
		{-3, 4, 4}, {-3, -4, 0}, {math.MinInt, 1, 1}, {math.MinInt, math.MinInt, 0}, {math.MinInt, math.MaxInt, 65535},
		{65536, 0, 65535}, {65536, -1, 65535}, {math.MaxInt, 0, 65535}, {math.MaxInt, math.MaxInt, 65535}, {math.MaxInt, math.MinInt, 65535},
		{1, math.MaxInt, 65535}, {3, 1 << 62, 65535},
	} {
		wantNumber(t, "More", x[:2], tick.More(x[0], x[1]), x[2])
	}
	for _, n := range numbers() {
		for _, by := range numbers() {
			// Both count as counters: their sum is far from wrapping round.
			sum := counted(n, topCount) + counted(by, topCount)
			wantNumber(t, "More", []int{n, by}, tick.More(n, by), counted(sum, topCount))
		}
	}
}

// P3.2

func TestDown(t *testing.T) {
	for _, x := range [][2]int{
		{math.MinInt, 0}, {-9, 0}, {-1, 0}, {0, 0}, {1, 0}, {2, 1}, {3, 2}, {1000, 999}, {65535, 65534}, {65536, 65535},
		{topClock, topClock - 1}, {topClock + 2, topClock + 1}, {math.MaxInt, math.MaxInt - 1},
	} {
		wantNumber(t, "Down", x[:1], tick.Down(x[0]), x[1])
	}
}

func TestDownComesToAnEnd(t *testing.T) {
	left := 1000
	for i := range 1010 {
		wantNumber(t, "time left", []int{i}, left, max(1000-i, 0))
		left = tick.Down(left)
	}
}

func TestLate(t *testing.T) {
	rising := []int{math.MinInt, -65536, -5, -1, 0, 1, 2, 999, 1000, 65534, 65535, 65536, topClock - 1, topClock, topClock + 1, math.MaxInt - 1, math.MaxInt}
	for i, age := range rising {
		for j, top := range rising {
			if tick.Late(age, top) != (i > j) {
				t.Errorf("Late(%d, %d) is %v", age, top, i <= j)
			}
		}
	}
}

func TestRow(t *testing.T) {
	for _, x := range [][2]int{
		{math.MinInt, 1}, {-9, 1}, {-1, 1}, {0, 1}, {1, 2}, {9, 10}, {65533, 65534}, {65534, 65535}, {65535, 65535}, {65536, 65535}, {math.MaxInt, 65535},
	} {
		wantNumber(t, "a row that is told,", x[:1], tick.Row(true, x[0]), x[1])
		wantNumber(t, "a row that is not told,", x[:1], tick.Row(false, x[0]), 0)
	}
}

func TestRowOfTicks(t *testing.T) {
	ticks := 0
	for i, c := range "1101110010000111110" {
		was := ticks
		ticks = tick.Row(c == '1', ticks)
		if c == '1' && ticks != was+1 || c == '0' && ticks != 0 {
			t.Errorf("the tick %d: %d, then %d", i, was, ticks)
		}
	}
}

// P3.3

func TestClocksStayWithinAndNeverFall(t *testing.T) {
	for _, n := range numbers() {
		now := tick.Clock(n)
		for range 5 {
			next := tick.Next(now)
			if next < now || next < 0 || next > topClock || tick.Clock(next) != next {
				t.Errorf("from %d: %d, then %d", n, now, next)
			}
			if next == now && now != topClock {
				t.Errorf("from %d: it stands still at %d", n, now)
			}
			now = next
		}
	}
}

func TestCountersStayWithinAndNeverFall(t *testing.T) {
	for _, n := range numbers() {
		for _, by := range numbers() {
			now := tick.Count(n)
			for range 3 {
				next := tick.More(now, by)
				if next < now || next < 0 || next > topCount || tick.Count(next) != next {
					t.Errorf("from %d by %d: %d, then %d", n, by, now, next)
				}
				if next == now && now != topCount && by > 0 {
					t.Errorf("from %d by %d: it stands still at %d", n, by, now)
				}
				now = next
			}
		}
	}
}

func TestACounterGoesThroughAllItsNumbers(t *testing.T) {
	now, row := 0, 0
	for i := range topCount + 5 {
		wantNumber(t, "a counter behind ticks,", []int{i}, now, min(i, topCount))
		wantNumber(t, "a row behind ticks,", []int{i}, row, min(i, topCount))
		now, row = tick.More(now, 1), tick.Row(true, row)
	}
}

func TestTimeAndRowsStayWithin(t *testing.T) {
	for _, n := range numbers() {
		if left := tick.Down(n); left < 0 || left > max(n, 0) {
			t.Errorf("Down(%d) is %d", n, left)
		}
		for _, told := range []bool{false, true} {
			if ticks := tick.Row(told, n); ticks < 0 || ticks > topCount {
				t.Errorf("Row(%v, %d) is %d", told, n, ticks)
			}
		}
	}
}

// R3 (R1: all of the above, by numbers that may not be; R2 and R4: no call answers an error, or has memory to share)

func TestAnswersHangOnTheirArgumentsAlone(t *testing.T) {
	tell := func() [7]int {
		late := 0
		if tick.Late(4, 3) {
			late = 1
		}
		return [7]int{tick.Next(8), tick.Clock(9), tick.Count(10), tick.More(20, 30), tick.Down(40), late, tick.Row(true, 60)}
	}
	was := tell()
	if was != [7]int{9, 9, 10, 50, 39, 1, 61} {
		t.Errorf("got %v", was)
	}
	for _, n := range numbers() {
		tick.Next(n)
		tick.Clock(n)
		tick.Count(n)
		tick.More(n, n)
		tick.Down(n)
		tick.Late(n, -n)
		tick.Row(n > 0, n)
		if now := tell(); now != was {
			t.Fatalf("behind calls by %d: %v, then %v", n, was, now)
		}
	}
}
