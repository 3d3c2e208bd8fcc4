package beyond_test

import (
	"fmt"
	"math"
	"slices"
	"strconv"
	"testing"

	"lockbar/api"
	"lockbar/beyond"
	"lockbar/join"
	"lockbar/layout"
	"lockbar/port"
	"lockbar/topo"
)

// mostSections is the limit, written out here, so that a wrong one would be seen.
const mostSections = 24

// end is where the track ends.
func end() api.Port { return api.Port{S: -1, P: 0} }

// goings are the ends of a kind's ways, by the way's number, as chapter 5 writes them out.
func goings(kind uint8) [][2]int {
	switch kind {
	case 1:
		return [][2]int{{0, 1}}
	case 2:
		return [][2]int{{0, 1}, {0, 2}}
	case 3:
		return [][2]int{{0, 1}, {2, 3}}
	}
	return nil
}

// portsOf is how many ports a kind has.
func portsOf(kind uint8) int {
	if kind < 1 || kind > 3 {
		return 0
	}
	return int(kind) + 1
}

// numbers are such as lie at the edges, and far beyond them.
func numbers() []int {
	all := []int{math.MinInt, math.MinInt + 1, math.MinInt32, -256, 255, 256, math.MaxInt32, math.MaxUint32, 1 << 32, 1<<32 + 1, 1 << 62, math.MaxInt - 1, math.MaxInt}
	for n := -3; n < 42; n++ {
		all = append(all, n)
	}
	return all
}

// ends are numbers of ports, at the edges, and far beyond them.
func ends() []int {
	return []int{math.MinInt, -256, -2, -1, 0, 1, 2, 3, 4, 5, 256, 1 << 32, 1<<32 + 1, math.MaxInt}
}

// apart are so many sections of that kind that join to nothing, and all times at their least.
func apart(kind uint8, sections int) api.Layout {
	l := api.Layout{Times: api.Times{Clear: 1, Drive: 1, Stale: 1, Approach: 1, Over: 1, Press: 1, Link: 1}}
	for range sections {
		l.Sections = append(l.Sections, api.Section{Kind: kind, Join: [4]api.Port{end(), end(), end(), end()}})
	}
	return l
}

// tie joins two ports, both ways about.
func tie(l *api.Layout, a, b api.Port) {
	l.Sections[a.S].Join[a.P] = b
	l.Sections[b.S].Join[b.P] = a
}

// yard is a layout that hangs together: plain sections 0, 3, 4, 6, 9, points 1 and 5, a crossing 2; 7 and 8 are joined at both ends, and apart from the others; 9 is alone. Each way has a class that tells it from the other one. Overlaps have no, one, two steps. Flanks of one way stand apart from each other in the row.
func yard() api.Layout {
	l := apart(1, 10)
	l.Sections[1].Kind, l.Sections[5].Kind, l.Sections[2].Kind = 2, 2, 3
	for _, x := range [][2]api.Port{
		{{S: 0, P: 1}, {S: 1, P: 0}}, {{S: 1, P: 1}, {S: 2, P: 0}}, {{S: 1, P: 2}, {S: 6, P: 0}}, {{S: 2, P: 1}, {S: 3, P: 0}},
		{{S: 2, P: 2}, {S: 4, P: 1}}, {{S: 2, P: 3}, {S: 5, P: 2}}, {{S: 5, P: 1}, {S: 6, P: 1}},
		{{S: 7, P: 0}, {S: 8, P: 1}}, {{S: 7, P: 1}, {S: 8, P: 0}},
	} {
		tie(&l, x[0], x[1])
	}
	l.Sections[0].Class, l.Sections[1].Class, l.Sections[2].Class, l.Sections[5].Class = [2]int{3, 0}, [2]int{1, 2}, [2]int{2, 3}, [2]int{0, 1}
	l.Signals = []api.Signal{{At: api.Port{S: 0, P: 0}}, {At: api.Port{S: 1, P: 0}}, {At: api.Port{S: 6, P: 1}}, {At: api.Port{S: 2, P: 3}}}
	l.Exits = []api.Exit{
		{At: api.Port{S: 3, P: 1}},
		{At: api.Port{S: 1, P: 1}, Over: []api.Step{{S: 2, In: 0, Out: 1}}},
		{At: api.Port{S: 1, P: 2}, Over: []api.Step{{S: 6, In: 0, Out: 1}, {S: 5, In: 1, Out: 0}}},
		{At: api.Port{S: 7, P: 1}, Over: []api.Step{{S: 8, In: 0, Out: 1}}},
		{At: api.Port{S: 5, P: 2}, Over: []api.Step{{S: 2, In: 3, Out: 2}, {S: 4, In: 1, Out: 0}}},
	}
	l.Flanks = []api.Flank{
		{S: 1, Way: 1, Point: 5, Pos: 0}, {S: 2, Way: 1, Point: 5, Pos: 1}, {S: 1, Way: 0, Point: 5, Pos: 1},
		{S: 2, Way: 1, Point: 1, Pos: 0}, {S: 0, Way: 0, Point: 5, Pos: 1}, {S: 2, Way: 0, Point: 5, Pos: 0}, {S: 0, Way: 0, Point: 1, Pos: 1},
	}
	return l
}

// fullest is a layout that hangs together, a ring of points, from the normal end of each to the toe of the next; all of its flanks are of one way.
func fullest() api.Layout {
	l := apart(2, mostSections)
	for n := range mostSections {
		tie(&l, api.Port{S: n, P: 1}, api.Port{S: (n + 1) % mostSections, P: 0})
		l.Sections[n].Class = [2]int{n % 4, 3 - n%4}
	}
	for n := range 12 {
		s := 2*n + 1
		l.Signals = append(l.Signals, api.Signal{At: api.Port{S: 2 * n, P: 0}})
		l.Exits = append(l.Exits, api.Exit{At: api.Port{S: s, P: 1}, Over: []api.Step{{S: (s + 1) % mostSections, In: 0, Out: 1}, {S: (s + 2) % mostSections, In: 0, Out: 2}}})
	}
	for n := range 16 {
		l.Flanks = append(l.Flanks, api.Flank{S: 23, Way: 1, Point: 7 * n % 23, Pos: n % 2})
	}
	return l
}

// mixed is a layout by numbers that may be, its sections joined: some of all kinds, flanks that may stand at one way with the same point, overlaps by what lies beyond.
func mixed(seed uint32) api.Layout {
	roll := func(n int) int {
		seed = seed*1664525 + 1013904223
		return int(seed>>16) % n
	}
	l := apart(1, 2+roll(9))
	var all []api.Port
	for s := range l.Sections {
		x := &l.Sections[s]
		x.Kind = uint8(1 + roll(3))
		for way := range goings(x.Kind) {
			x.Class[way] = roll(4)
		}
		for p := range portsOf(x.Kind) {
			all = append(all, api.Port{S: s, P: p})
		}
	}
	for range 2 * len(all) {
		a, b := all[roll(len(all))], all[roll(len(all))]
		if a.S != b.S && l.Sections[a.S].Join[a.P] == end() && l.Sections[b.S].Join[b.P] == end() {
			tie(&l, a, b)
		}
	}
	for range roll(4) {
		l.Signals = append(l.Signals, api.Signal{At: all[roll(len(all))]})
	}
	for range roll(4) {
		at := all[roll(len(all))]
		l.Exits = append(l.Exits, api.Exit{At: at, Over: walked(l, at, roll(3), roll)})
	}
	for range roll(17) {
		f := api.Flank{S: roll(len(l.Sections)), Point: roll(len(l.Sections)), Pos: roll(2)}
		f.Way = roll(len(goings(l.Sections[f.S].Kind)))
		if f.S != f.Point && l.Sections[f.Point].Kind == 2 {
			l.Flanks = append(l.Flanks, f)
		}
	}
	return l
}

// walked are steps on from a port, by what lies beyond, as many as there can be.
func walked(l api.Layout, from api.Port, many int, roll func(n int) int) []api.Step {
	var all []api.Step
	for range many {
		q := l.Sections[from.S].Join[from.P]
		if q == end() {
			break
		}
		var on []api.Step
		for _, s := range steps(l) {
			if s.S == q.S && s.In == q.P {
				on = append(on, s)
			}
		}
		s := on[roll(len(on))]
		all, from = append(all, s), api.Port{S: s.S, P: s.Out}
	}
	return all
}

// mixeds are a great many of them.
func mixeds() []api.Layout {
	var all []api.Layout
	for seed := range uint32(1500) {
		all = append(all, mixed(seed))
	}
	return all
}

// odds are layouts whose numbers may not be: of nothing, of no kinds, of too many sections, of wild numbers.
func odds() []api.Layout {
	lost, wild, long, cut := yard(), yard(), apart(2, 40), yard()
	lost.Sections[1].Kind, lost.Sections[2].Kind, lost.Sections[8].Kind = 0, 4, 255
	for i, n := range numbers() {
		m := numbers()[i*7%len(numbers())]
		wild.Sections[i%10].Join[i/10%4] = api.Port{S: n, P: m}
		wild.Sections[i%10].Class[i/10%2] = n
		wild.Signals = append(wild.Signals, api.Signal{At: api.Port{S: n, P: i % 3}}, api.Signal{At: api.Port{S: i % 10, P: m}})
		wild.Exits = append(wild.Exits, api.Exit{At: api.Port{S: n, P: m}, Over: []api.Step{{S: n, In: m, Out: i}, {S: m}, {}, {Out: n}}[:i%5]})
		for way := -1; way < 3; way++ {
			wild.Flanks = append(wild.Flanks, api.Flank{S: i % 11, Way: way, Point: n, Pos: m}, api.Flank{S: n, Way: way, Point: m, Pos: n}, api.Flank{S: i % 11, Way: n, Point: m, Pos: m})
		}
	}
	for n := range 40 {
		tie(&long, api.Port{S: n, P: 1}, api.Port{S: (n + 1) % 40, P: 0})
		long.Flanks = append(long.Flanks, api.Flank{S: 39, Way: n % 2, Point: n, Pos: n})
	}
	cut.Sections = cut.Sections[:3]
	none := yard()
	none.Sections = nil
	return []api.Layout{{}, lost, wild, long, cut, none, {Sections: make([]api.Section, 3), Signals: make([]api.Signal, 3), Exits: make([]api.Exit, 3), Flanks: make([]api.Flank, 3)}}
}

// anys are layouts of all sorts.
func anys() []api.Layout {
	return slices.Concat([]api.Layout{yard(), fullest(), apart(1, 1), apart(3, mostSections)}, odds(), mixeds()[:120])
}

// The reference: the chapter's words, by other means than the package's.

// steps are those that are there.
func steps(l api.Layout) []api.Step {
	var all []api.Step
	for s, x := range l.Sections {
		for _, e := range goings(x.Kind) {
			all = append(all, api.Step{S: s, In: e[0], Out: e[1]}, api.Step{S: s, In: e[1], Out: e[0]})
		}
	}
	return all
}

// gone is what goes with a step.
type gone struct {
	point       api.Need
	is          bool
	wants       []api.Need
	class       int
	entry, next api.Port
}

// with is what goes with each step that is there; needs with K 0.
func with(l api.Layout) map[api.Step]gone {
	all := map[api.Step]gone{}
	for s, x := range l.Sections {
		for way, e := range goings(x.Kind) {
			for about := range 2 {
				in, out := e[about], e[1-about]
				g := gone{class: x.Class[way], entry: api.Port{S: s, P: in}, next: x.Join[out]}
				if x.Kind == 2 {
					g.point, g.is = api.Need{P: s, Pos: max(in, out) - 1}, true
					g.wants = []api.Need{g.point}
				}
				for _, f := range l.Flanks {
					if [2]int{f.S, f.Way} == [2]int{s, way} {
						g.wants = append(g.wants, api.Need{P: f.Point, Pos: f.Pos})
					}
				}
				all[api.Step{S: s, In: in, Out: out}] = g
			}
		}
	}
	return all
}

// numbered are needs with that K.
func numbered(all []api.Need, k int) []api.Need {
	all = slices.Clone(all)
	for n := range all {
		all[n].K = k
	}
	return all
}

// goes tells whether steps go on from a port.
func goes(all map[api.Step]gone, from api.Port, steps []api.Step) bool {
	if len(steps) == 0 {
		return true
	}
	last := len(steps) - 1
	g, there := all[steps[last]]
	if !there {
		return false
	}
	if last > 0 {
		ahead, there := all[steps[last-1]]
		return there && ahead.next == g.entry && goes(all, from, steps[:last])
	}
	return from == g.entry
}

// P10.1

func TestExamples(t *testing.T) {
	if got := beyond.Mask(api.Step{S: 0}, api.Step{S: 3}); got != 9 {
		t.Errorf("Mask of steps through 0 and 3: %d", got)
	}
	if !beyond.Goes(yard(), api.Port{}) {
		t.Error("no steps go")
	}
}

// All steps, be they there or not, of all layouts.
func TestWhatGoesWithAStep(t *testing.T) {
	is, flanked := 0, 0
	for i, l := range anys() {
		all := with(l)
		for _, s := range numbers() {
			for _, in := range ends() {
				for _, out := range ends() {
					step := api.Step{S: s, In: in, Out: out}
					g, there := all[step]
					if !there {
						g.next = end()
					}
					if g.is {
						is++
					}
					if len(g.wants) > 2 {
						flanked++
					}
					wantStep(t, "layout "+strconv.Itoa(i), l, step, g)
				}
			}
		}
	}
	if is < 500 || flanked < 50 {
		t.Errorf("too few: %d steps through points, %d with several flanks", is, flanked)
	}
}

// wantStep holds what the calls tell of a step against what is wanted.
func wantStep(t *testing.T, what string, l api.Layout, s api.Step, g gone) {
	t.Helper()
	if p, pos, ok := beyond.Point(l, s); p != g.point.P || pos != g.point.Pos || ok != g.is {
		t.Errorf("%s: Point(%v) is %d, %d, %v", what, s, p, pos, ok)
	}
	for _, k := range []int{0, 1, s.In} {
		if got := beyond.Wants(l, s, k); !slices.Equal(got, numbered(g.wants, k)) {
			t.Errorf("%s: Wants(%v, %d) is %v, want %v", what, s, k, got, g.wants)
		}
	}
	if got := beyond.Class(l, s); got != g.class {
		t.Errorf("%s: Class(%v) is %d, want %d", what, s, got, g.class)
	}
	if got := beyond.Next(l, s); got != g.next {
		t.Errorf("%s: Next(%v) is %v, want %v", what, s, got, g.next)
	}
}

func TestWhatGoesWithAStepByHand(t *testing.T) {
	l := yard()
	for _, x := range []struct {
		s     api.Step
		k     int
		wants []api.Need
		class int
		next  api.Port
	}{
		{api.Step{S: 0, In: 0, Out: 1}, 2, []api.Need{{P: 5, Pos: 1, K: 2}, {P: 1, Pos: 1, K: 2}}, 3, api.Port{S: 1, P: 0}},
		{api.Step{S: 0, In: 1, Out: 0}, 0, []api.Need{{P: 5, Pos: 1}, {P: 1, Pos: 1}}, 3, end()},
		{api.Step{S: 1, In: 0, Out: 1}, 7, []api.Need{{P: 1, Pos: 0, K: 7}, {P: 5, Pos: 1, K: 7}}, 1, api.Port{S: 2, P: 0}},
		{api.Step{S: 1, In: 0, Out: 2}, 7, []api.Need{{P: 1, Pos: 1, K: 7}, {P: 5, Pos: 0, K: 7}}, 2, api.Port{S: 6, P: 0}},
		{api.Step{S: 1, In: 2, Out: 0}, -7, []api.Need{{P: 1, Pos: 1, K: -7}, {P: 5, Pos: 0, K: -7}}, 2, api.Port{S: 0, P: 1}},
		{api.Step{S: 2, In: 0, Out: 1}, 12, []api.Need{{P: 5, Pos: 0, K: 12}}, 2, api.Port{S: 3, P: 0}},
		{api.Step{S: 2, In: 3, Out: 2}, math.MaxInt, []api.Need{{P: 5, Pos: 1, K: math.MaxInt}, {P: 1, Pos: 0, K: math.MaxInt}}, 3, api.Port{S: 4, P: 1}},
		{api.Step{S: 5, In: 2, Out: 0}, math.MinInt, []api.Need{{P: 5, Pos: 1, K: math.MinInt}}, 1, end()},
		{api.Step{S: 9, In: 1, Out: 0}, 3, nil, 0, end()},
		// Not there: no way goes so, though both ports, or one of them, are there, and lead on.
		{api.Step{S: 1, In: 1, Out: 2}, 3, nil, 0, end()},
		{api.Step{S: 1, In: 1, Out: 1}, 3, nil, 0, end()},
		{api.Step{S: 0, In: 1, Out: 1}, 3, nil, 0, end()},
		{api.Step{S: 2, In: 0, Out: 3}, 3, nil, 0, end()},
		{api.Step{S: 0, In: 2, Out: 1}, 3, nil, 0, end()},
		{api.Step{S: 1, In: -1, Out: 0}, 3, nil, 0, end()},
		{api.Step{S: 10, In: 0, Out: 1}, 3, nil, 0, end()},
		{api.Step{S: -1, In: 0, Out: 1}, 3, nil, 0, end()},
	} {
		g := gone{wants: numbered(x.wants, 0), class: x.class, next: x.next}
		if s := l.Sections[max(0, min(x.s.S, 9))]; s.Kind == 2 && x.wants != nil {
			g.point, g.is = g.wants[0], true
		}
		wantStep(t, "yard", l, x.s, g)
		if got := beyond.Wants(l, x.s, x.k); !slices.Equal(got, x.wants) {
			t.Errorf("Wants(%v, %d) is %v, want %v", x.s, x.k, got, x.wants)
		}
	}
}

// The step's own point comes ahead of its flanks, those in order of their numbers, not of their points.
func TestWantsInOrder(t *testing.T) {
	l := fullest()
	want := []api.Need{{P: 23, Pos: 1, K: 5}}
	for _, f := range l.Flanks {
		want = append(want, api.Need{P: f.Point, Pos: f.Pos, K: 5})
	}
	for _, s := range []api.Step{{S: 23, In: 0, Out: 2}, {S: 23, In: 2, Out: 0}} {
		if got := beyond.Wants(l, s, 5); !slices.Equal(got, want) || len(got) != 17 {
			t.Errorf("Wants(%v) is %v, want %v", s, got, want)
		}
	}
	slices.Reverse(l.Flanks)
	slices.Reverse(want[1:])
	if got := beyond.Wants(l, api.Step{S: 23, In: 0, Out: 2}, 5); !slices.Equal(got, want) {
		t.Errorf("turned about: %v, want %v", got, want)
	}
}

// What flanks, and classes, tell is told as it is, as often as it is there, be it none that may be.
func TestOddFlanksAndClasses(t *testing.T) {
	l := apart(2, 2)
	l.Sections[1].Class = [2]int{-9, math.MaxInt}
	l.Flanks = []api.Flank{{S: 1, Way: 1, Point: 1, Pos: 0}, {S: 1, Way: 1, Point: -4, Pos: 77}, {S: 1, Way: 1, Point: 1, Pos: 0}, {S: 1, Way: 2, Point: 3}, {S: 1, Way: -1, Point: 3}, {S: -1, Way: 0, Point: 3}, {S: 2, Way: 0, Point: 3}}
	wantStep(t, "reverse", l, api.Step{S: 1, In: 0, Out: 2}, gone{api.Need{P: 1, Pos: 1}, true, []api.Need{{P: 1, Pos: 1}, {P: 1, Pos: 0}, {P: -4, Pos: 77}, {P: 1, Pos: 0}}, math.MaxInt, api.Port{}, end()})
	wantStep(t, "normal", l, api.Step{S: 1, In: 1, Out: 0}, gone{api.Need{P: 1}, true, []api.Need{{P: 1}}, -9, api.Port{}, end()})
	for _, s := range []api.Step{{S: -1, In: 0, Out: 1}, {S: 2, In: 0, Out: 1}, {S: 1, In: 2, Out: 1}} {
		wantStep(t, "not there", l, s, gone{next: end()})
	}
}

// A section's Class of a way is asked for by the way alone, for all kinds; a class of a way that the kind does not have is none's.
func TestClassByKinds(t *testing.T) {
	for kind := range 256 {
		l := apart(uint8(kind), 1)
		l.Sections[0].Class = [2]int{4, 5}
		for _, in := range ends() {
			for _, out := range ends() {
				want := 0
				for way, e := range goings(uint8(kind)) {
					if e == [2]int{in, out} || e == [2]int{out, in} {
						want = 4 + way
					}
				}
				if got := beyond.Class(l, api.Step{In: in, Out: out}); got != want {
					t.Errorf("kind %d, from %d to %d: Class is %d, want %d", kind, in, out, got, want)
				}
			}
		}
	}
}

// P10.2

func TestOver(t *testing.T) {
	for i, l := range anys() {
		for _, x := range append(numbers(), 50, 57, 58, 59, 62, 63, 64) {
			var want []api.Step
			for n, exit := range l.Exits {
				if n == x {
					want = exit.Over
				}
			}
			if got := beyond.Over(l, x); !slices.Equal(got, want) {
				t.Errorf("layout %d: Over(%d) is %v, want %v", i, x, got, want)
			}
		}
	}
}

func TestOverByHand(t *testing.T) {
	for x, want := range [][]api.Step{nil, {{S: 2, In: 0, Out: 1}}, {{S: 6, In: 0, Out: 1}, {S: 5, In: 1, Out: 0}}, {{S: 8, In: 0, Out: 1}}, {{S: 2, In: 3, Out: 2}, {S: 4, In: 1, Out: 0}}, nil} {
		if got := beyond.Over(yard(), x); !slices.Equal(got, want) {
			t.Errorf("Over(%d) is %v, want %v", x, got, want)
		}
	}
	for _, x := range []int{-1, 5, math.MinInt, math.MaxInt, 1 << 32} {
		if got := beyond.Over(yard(), x); len(got) != 0 {
			t.Errorf("Over(%d) is %v", x, got)
		}
	}
}

func TestRear(t *testing.T) {
	led := 0
	for i, l := range anys() {
		for n := range len(l.Signals) + 2 {
			want := end()
			for m, s := range l.Signals {
				if m == n && s.At.S >= 0 && s.At.S < len(l.Sections) && s.At.P >= 0 && s.At.P < portsOf(l.Sections[s.At.S].Kind) {
					want = l.Sections[s.At.S].Join[s.At.P]
				}
			}
			if want != end() {
				led++
			}
			if got := beyond.Rear(l, n); got != want {
				t.Errorf("layout %d: Rear(%d) is %v, want %v", i, n, got, want)
			}
		}
		for _, n := range []int{math.MinInt, -256, -1, len(l.Signals), len(l.Signals) + 1, 1 << 32, math.MaxInt} {
			if got := beyond.Rear(l, n); got != end() {
				t.Errorf("layout %d: Rear(%d) is %v, but there is no such signal", i, n, got)
			}
		}
	}
	if led < 50 {
		t.Errorf("only %d signals have something in rear", led)
	}
}

func TestRearByHand(t *testing.T) {
	for n, want := range []api.Port{end(), {S: 0, P: 1}, {S: 5, P: 1}, {S: 5, P: 2}, end()} {
		if got := beyond.Rear(yard(), n); got != want {
			t.Errorf("Rear(%d) is %v, want %v", n, got, want)
		}
	}
	// A signal at a port that is not there has nothing in rear.
	l := yard()
	l.Signals = []api.Signal{{At: api.Port{S: 0, P: 2}}, {At: api.Port{S: 10, P: 1}}, {At: end()}, {At: api.Port{S: 1, P: -1}}}
	for n := range l.Signals {
		if got := beyond.Rear(l, n); got != end() {
			t.Errorf("Rear of a signal at %v is %v", l.Signals[n].At, got)
		}
	}
}

// What a Join tells is told as it is, be it none of the layout's.
func TestNextAndRearTellWhatJoinTells(t *testing.T) {
	for _, q := range []api.Port{{S: -7, P: 9}, {S: -1, P: 2}, {S: 1, P: 1}, {S: 23, P: 3}, {S: math.MaxInt, P: math.MinInt}} {
		l := apart(2, 2)
		l.Sections[1].Join[2] = q
		l.Signals = []api.Signal{{}, {At: api.Port{S: 1, P: 2}}}
		if got := beyond.Next(l, api.Step{S: 1, In: 0, Out: 2}); got != q {
			t.Errorf("Next is %v, want %v", got, q)
		}
		if got := beyond.Rear(l, 1); got != q {
			t.Errorf("Rear is %v, want %v", got, q)
		}
		if beyond.Next(l, api.Step{S: 1, In: 1, Out: 2}) != end() || beyond.Next(l, api.Step{S: 1, In: 0, Out: 1}) != end() || beyond.Rear(l, 0) != end() {
			t.Errorf("%v lies beyond what is not joined to it", q)
		}
	}
}

// P10.3

func TestLimitIsThatOfTheApi(t *testing.T) {
	if api.MaxSections != mostSections {
		t.Error("another limit")
	}
}

func TestMaskOfOne(t *testing.T) {
	for _, s := range append(numbers(), 63, 64, 65, -64, -32) {
		want := uint32(0)
		for n := range mostSections {
			if n == s {
				want = uint32(math.Pow(2, float64(n)))
			}
		}
		for _, in := range ends() {
			if got := beyond.Mask(api.Step{S: s, In: in, Out: in - 1}); got != want {
				t.Errorf("Mask of a step through %d is %d, want %d", s, got, want)
			}
		}
	}
}

// All sets of six sections, each once or twice, in either order, with such as are left out between.
func TestMaskOfSeveral(t *testing.T) {
	bits := []int{0, 1, 7, 8, 22, 23}
	for set := range 64 {
		var l []api.Step
		want := uint32(0)
		for n, s := range bits {
			if set>>n&1 == 1 {
				l = append(l, api.Step{S: s, In: 1}, api.Step{S: 24 + n}, api.Step{S: -1 - n}, api.Step{S: s, Out: 1})
				want += 1 << s
			}
		}
		for range 2 {
			if got := beyond.Mask(l...); got != want {
				t.Errorf("Mask(%v) is %b, want %b", l, got, want)
			}
			slices.Reverse(l)
		}
	}
	var all []api.Step
	for _, s := range numbers() {
		all = append(all, api.Step{S: s})
	}
	if got := beyond.Mask(all...); got != 1<<24-1 {
		t.Errorf("Mask of all: %b", got)
	}
	if beyond.Mask() != 0 || beyond.Mask([]api.Step{}...) != 0 {
		t.Error("Mask of none")
	}
}

// All rows of up to three steps of a small layout, from all of its ports, and others.
func TestGoes(t *testing.T) {
	l := apart(1, 3)
	l.Sections[1].Kind, l.Sections[2].Kind = 2, 3
	tie(&l, api.Port{S: 0, P: 1}, api.Port{S: 1, P: 0})
	tie(&l, api.Port{S: 1, P: 1}, api.Port{S: 2, P: 0})
	tie(&l, api.Port{S: 1, P: 2}, api.Port{S: 2, P: 3})
	one := l
	one.Sections = slices.Clone(l.Sections)
	one.Sections[2].Join[0], one.Sections[0].Join[1] = api.Port{S: 0, P: 0}, api.Port{S: 0, P: 1}
	for i, l := range []api.Layout{l, one} {
		wantAllRows(t, "layout "+strconv.Itoa(i), l)
	}
}

// wantAllRows holds what Goes tells of all rows of up to three steps against the reference.
func wantAllRows(t *testing.T, what string, l api.Layout) {
	t.Helper()
	all, some := with(l), append(steps(l), api.Step{S: 1, In: 1, Out: 2}, api.Step{S: 0, In: 1, Out: 1}, api.Step{S: -1, In: 0, Out: 1}, api.Step{S: 3, In: 0, Out: 1})
	rows := [][]api.Step{nil}
	for n := 0; n < len(rows); n++ {
		for _, s := range some {
			if len(rows[n]) < 3 {
				rows = append(rows, append(slices.Clone(rows[n]), s))
			}
		}
	}
	seen := [4]int{}
	for _, row := range rows {
		for s := -1; s <= len(l.Sections); s++ {
			for p := -1; p < 5; p++ {
				from := api.Port{S: s, P: p}
				want := goes(all, from, row)
				if want {
					seen[len(row)]++
				}
				if got := beyond.Goes(l, from, row...); got != want {
					t.Errorf("%s: Goes(%v, %v) is %v", what, from, row, got)
				}
			}
		}
	}
	if seen[0] != 6*(len(l.Sections)+2) || slices.Min(seen[1:]) < 2 {
		t.Errorf("%s: too few go: by steps %v", what, seen)
	}
}

func TestGoesByHand(t *testing.T) {
	l := yard()
	a := []api.Step{{S: 0, In: 0, Out: 1}, {S: 1, In: 0, Out: 2}, {S: 6, In: 0, Out: 1}, {S: 5, In: 1, Out: 0}}
	for i, x := range []struct {
		from  api.Port
		steps []api.Step
		want  bool
	}{
		{end(), nil, true},
		{api.Port{S: 77, P: math.MinInt}, []api.Step{}, true},
		{api.Port{S: 0, P: 0}, a, true},
		{api.Port{S: 0, P: 0}, a[:1], true},
		{api.Port{S: 1, P: 0}, a[1:], true},
		// From another port: of the same section, of the step's other end, of none, of the step behind.
		{api.Port{S: 0, P: 1}, a, false},
		{api.Port{S: 1, P: 0}, a, false},
		{api.Port{S: 0, P: 0}, a[1:], false},
		{end(), a, false},
		// A step left out, put twice, turned about, or at another place.
		{api.Port{S: 0, P: 0}, []api.Step{a[0], a[2], a[3]}, false},
		{api.Port{S: 0, P: 0}, []api.Step{a[0], a[1], a[1]}, false},
		{api.Port{S: 0, P: 0}, []api.Step{a[0], a[1], {S: 6, In: 1, Out: 0}}, false},
		{api.Port{S: 0, P: 0}, []api.Step{a[0], a[1], a[3], a[2]}, false},
		// Not there, first or last; behind the end of the track.
		{api.Port{S: 0, P: 0}, []api.Step{{S: 0, In: 0, Out: 0}}, false},
		{api.Port{S: 1, P: 1}, []api.Step{{S: 1, In: 1, Out: 2}}, false},
		{api.Port{S: 0, P: 0}, []api.Step{a[0], {S: 1, In: 0, Out: 3}}, false},
		{api.Port{S: 3, P: 0}, []api.Step{{S: 3, In: 0, Out: 1}, {S: -1, In: 0, Out: 1}}, false},
		{api.Port{S: 3, P: 0}, []api.Step{{S: 3, In: 0, Out: 1}, {S: 0, In: 0, Out: 1}}, false},
		{end(), []api.Step{{S: -1, In: 0, Out: 1}}, false},
		// The other way of the crossing; the wrong way of the point.
		{api.Port{S: 1, P: 0}, []api.Step{{S: 1, In: 0, Out: 1}, {S: 2, In: 0, Out: 1}}, true},
		{api.Port{S: 1, P: 0}, []api.Step{{S: 1, In: 0, Out: 1}, {S: 2, In: 2, Out: 3}}, false},
		{api.Port{S: 1, P: 0}, []api.Step{{S: 1, In: 0, Out: 2}, {S: 2, In: 0, Out: 1}}, false},
		// Round and round: nothing is said of sections that come again.
		{api.Port{S: 7, P: 0}, []api.Step{{S: 7, In: 0, Out: 1}, {S: 8, In: 0, Out: 1}, {S: 7, In: 0, Out: 1}, {S: 8, In: 0, Out: 1}}, true},
		// No turning about within the row.
		{api.Port{S: 7, P: 0}, []api.Step{{S: 7, In: 0, Out: 1}, {S: 7, In: 1, Out: 0}}, false},
	} {
		if got := beyond.Goes(l, x.from, x.steps...); got != x.want {
			t.Errorf("steps %d: Goes is %v", i, got)
		}
	}
}

// Steps that are there go by what Join tells, one way about, too; and where it tells a port that is none they go no further.
func TestGoesWhereSectionsAreNotJoined(t *testing.T) {
	l := apart(1, 3)
	l.Sections[0].Join[1] = api.Port{S: 1, P: 1}
	l.Sections[1].Join[0] = api.Port{S: 1, P: 0}
	l.Sections[2].Join[1] = api.Port{S: 3, P: 0}
	on := []api.Step{{S: 0, In: 0, Out: 1}, {S: 1, In: 1, Out: 0}, {S: 1, In: 0, Out: 1}}
	if !beyond.Goes(l, api.Port{}, on...) {
		t.Error("they go by what Join tells")
	}
	if beyond.Goes(l, api.Port{S: 1, P: 1}, api.Step{S: 1, In: 1, Out: 0}, api.Step{S: 0, In: 1, Out: 0}) {
		t.Error("they do not go back")
	}
	if beyond.Goes(l, api.Port{S: 2, P: 0}, api.Step{S: 2, In: 0, Out: 1}, api.Step{S: 3, In: 0, Out: 1}) {
		t.Error("section 3 is not there")
	}
	long := odds()[3]
	var round []api.Step
	for n := range 100 {
		round = append(round, api.Step{S: n % 40, In: 0, Out: 1})
	}
	if !beyond.Goes(long, api.Port{}, round...) {
		t.Error("sections from MaxSections on are gone through, too")
	}
}

// P10.4

// whole are layouts that hang together.
func whole(t *testing.T) []api.Layout {
	t.Helper()
	all := []api.Layout{yard(), fullest(), apart(3, mostSections)}
	for _, l := range mixeds() {
		if topo.Right(l) {
			all = append(all, l)
		}
	}
	if len(all) < 200 || !topo.Right(all[0]) || !topo.Right(all[1]) {
		t.Fatalf("only %d hang together", len(all))
	}
	return all
}

func TestAnOverlapGoesFromWhatLiesBeyondItsExit(t *testing.T) {
	seen := [3]int{}
	for i, l := range whole(t) {
		for x, exit := range l.Exits {
			over := beyond.Over(l, x)
			seen[len(over)]++
			if !beyond.Goes(l, join.Beyond(l, exit.At), over...) {
				t.Errorf("layout %d: the overlap of %d does not go", i, x)
			}
			if len(over) > 0 && beyond.Goes(l, exit.At, over...) {
				t.Errorf("layout %d: the overlap of %d goes from the exit itself", i, x)
			}
		}
	}
	if slices.Min(seen[:]) < 30 {
		t.Errorf("too few overlaps: by steps %v", seen)
	}
}

func TestStepsThatGoDoSoInTwoParts(t *testing.T) {
	parts, seed := 0, 1
	roll := func(n int) int {
		seed = (seed*1664525 + 1013904223) % (1 << 32)
		return seed >> 16 % n
	}
	for i, l := range whole(t) {
		for s, x := range l.Sections {
			for p := range portsOf(x.Kind) {
				at := api.Port{S: s, P: p}
				from, row := x.Join[p], walked(l, at, 12, roll)
				if !beyond.Goes(l, from, row...) {
					t.Errorf("layout %d: from %v %v do not go", i, at, row)
				}
				for n := 1; n < len(row); n++ {
					parts++
					if !beyond.Goes(l, from, row[:n]...) || !beyond.Goes(l, beyond.Next(l, row[n-1]), row[n:]...) {
						t.Errorf("layout %d: %v do not go in two parts", i, row)
					}
					if mask := beyond.Mask(row[:n]...) | beyond.Mask(row[n:]...); mask != beyond.Mask(row...) {
						t.Errorf("layout %d: the mask of %v is not that of its parts", i, row)
					}
				}
			}
		}
	}
	if parts < 1000 {
		t.Errorf("only %d parts", parts)
	}
}

func TestTurnedAboutItWantsTheSame(t *testing.T) {
	seen := 0
	for i, l := range append(whole(t), odds()...) {
		for k, s := range steps(l) {
			is, about := beyond.Wants(l, s, k), beyond.Wants(l, port.Turned(s), k)
			if !slices.Equal(is, about) || beyond.Class(l, s) != beyond.Class(l, port.Turned(s)) {
				t.Errorf("layout %d: %v wants %v, turned about %v", i, s, is, about)
			}
			seen += len(is)
		}
	}
	if seen < 1000 {
		t.Errorf("only %d needs", seen)
	}
}

// R1, R3, R4 (R1's wrong numbers: all of the above; R2: no call answers an error)

func TestLongListsEnd(t *testing.T) {
	const many = 200000
	l := apart(2, many)
	l.Flanks, l.Signals, l.Exits = make([]api.Flank, many), make([]api.Signal, many), make([]api.Exit, many)
	for n := range many {
		tie(&l, api.Port{S: n, P: 1}, api.Port{S: (n + 1) % many, P: 0})
	}
	var row []api.Step
	for n := range 2 * many {
		row = append(row, api.Step{S: n % many, In: 0, Out: 1})
	}
	l.Exits[many-1].Over = row
	if !beyond.Goes(l, api.Port{}, row...) || beyond.Goes(l, api.Port{S: 1, P: 0}, row...) {
		t.Error("a long ring")
	}
	if beyond.Mask(row...) != 1<<24-1 || len(beyond.Over(l, many-1)) != 2*many || len(beyond.Wants(l, row[0], 1)) != many+1 || len(beyond.Wants(l, row[1], 1)) != 1 {
		t.Error("of long lists not all is told")
	}
	if p, pos, ok := beyond.Point(l, row[many-1]); p != many-1 || pos != 0 || !ok {
		t.Errorf("the last point: %d, %d, %v", p, pos, ok)
	}
	if beyond.Next(l, row[many-1]) != (api.Port{}) || beyond.Rear(l, many-1) != (api.Port{S: many - 1, P: 1}) || beyond.Rear(l, many) != end() {
		t.Error("beyond the last one")
	}
}

func TestNilIsEmpty(t *testing.T) {
	empty := api.Layout{Sections: []api.Section{}, Signals: []api.Signal{}, Exits: []api.Exit{}, Flanks: []api.Flank{}}
	for _, l := range []api.Layout{{}, empty} {
		wantStep(t, "no layout", l, api.Step{S: 0, In: 0, Out: 1}, gone{next: end()})
		if len(beyond.Over(l, 0)) != 0 || beyond.Rear(l, 0) != end() || !beyond.Goes(l, api.Port{}) || beyond.Goes(l, api.Port{}, api.Step{Out: 1}) {
			t.Error("a layout of nothing has something")
		}
	}
	l := apart(1, 1)
	l.Exits = []api.Exit{{Over: nil}, {Over: []api.Step{}}, {Over: make([]api.Step, 0, 9)}}
	for n := range l.Exits {
		if got := beyond.Over(l, n); len(got) != 0 {
			t.Errorf("an empty overlap: %v", got)
		}
	}
}

// tell is what all calls tell of a layout, as text.
func tell(l api.Layout) string {
	text := ""
	for _, s := range append(steps(l), api.Step{}, api.Step{S: 99}) {
		p, pos, ok := beyond.Point(l, s)
		text += fmt.Sprintln(p, pos, ok, beyond.Wants(l, s, 3), beyond.Class(l, s), beyond.Next(l, s))
	}
	for n := -1; n < 7; n++ {
		over := beyond.Over(l, n)
		text += fmt.Sprintln(over, beyond.Rear(l, n), beyond.Mask(over...), beyond.Goes(l, api.Port{S: n}, over...))
	}
	return text
}

func TestAnswersHangOnTheirArgumentsAlone(t *testing.T) {
	was := tell(yard())
	for i, l := range anys() {
		tell(l)
		if now := tell(yard()); now != was {
			t.Fatalf("behind calls by layout %d: %s, then %s", i, was, now)
		}
	}
}

// roomy is l in memory of its own, spare room behind each of its lists.
func roomy(l api.Layout) api.Layout {
	own := layout.Own(l)
	own.Sections = append(own.Sections, make([]api.Section, 5)...)[:len(l.Sections)]
	own.Signals = append(own.Signals, make([]api.Signal, 5)...)[:len(l.Signals)]
	own.Flanks = append(own.Flanks, make([]api.Flank, 5)...)[:len(l.Flanks)]
	own.Exits = append(own.Exits, make([]api.Exit, 5)...)[:len(l.Exits)]
	for i, x := range own.Exits {
		own.Exits[i].Over = append(slices.Clip(x.Over), make([]api.Step, 5)...)[:len(x.Over)]
	}
	return own
}

// wide is l with its lists as long as there is room; its exits are its own, so that only those of this one have long overlaps.
func wide(l api.Layout) api.Layout {
	l.Sections, l.Signals, l.Flanks = l.Sections[:cap(l.Sections)], l.Signals[:cap(l.Signals)], l.Flanks[:cap(l.Flanks)]
	l.Exits = slices.Clone(l.Exits[:cap(l.Exits)])
	for i, x := range l.Exits {
		l.Exits[i].Over = x.Over[:cap(x.Over)]
	}
	return l
}

// What was handed in stays, though answers are written over.
func TestArgumentsStay(t *testing.T) {
	for i, l := range anys() {
		l = roomy(l)
		was := layout.Own(wide(l))
		tell(l)
		for n := range l.Exits {
			spoil(beyond.Over(l, n), api.Step{S: 77, In: 7, Out: 7})
		}
		for _, s := range steps(l) {
			spoil(beyond.Wants(l, s, 1), api.Need{P: 77, Pos: 7, K: 7})
		}
		if !layout.Same(wide(l), was) {
			t.Errorf("layout %d, which was handed in, has changed", i)
		}
	}
	row := append(make([]api.Step, 0, 9), api.Step{S: 0, In: 0, Out: 1}, api.Step{S: 1, In: 0, Out: 2}, api.Step{S: 6, In: 0, Out: 1})
	was := slices.Clone(row[:9])
	beyond.Mask(row...)
	if !beyond.Goes(yard(), api.Port{}, row...) || !slices.Equal(row[:9], was) {
		t.Error("steps that were handed in have changed")
	}
}

// spoil writes over all of an answer, its spare room, too.
func spoil[T any](answer []T, by T) {
	answer = answer[:cap(answer)]
	for n := range answer {
		answer[n] = by
	}
}

// wantApart tells of two answers of which one is written over by what is done to the other.
func wantApart[T comparable](t *testing.T, what string, ask func() []T, by T) {
	t.Helper()
	was := slices.Clone(ask())
	a, b := ask(), ask()
	a = a[:cap(a)]
	for n := range a {
		a[n] = by
	}
	if !slices.Equal(b, was) || !slices.Equal(ask(), was) || len(was) == 0 {
		t.Errorf("%s: %v, then %v, %v", what, was, b, ask())
	}
}

func TestAnswersShareNothing(t *testing.T) {
	l := yard()
	wantApart(t, "Over", func() []api.Step { return beyond.Over(l, 2) }, api.Step{S: 77, In: 7, Out: 7})
	wantApart(t, "Wants", func() []api.Need { return beyond.Wants(l, api.Step{S: 1, In: 0, Out: 2}, 1) }, api.Need{P: 77, Pos: 7, K: 7})
	wantApart(t, "Wants of flanks alone", func() []api.Need { return beyond.Wants(l, api.Step{S: 2, In: 2, Out: 3}, 1) }, api.Need{P: 77, Pos: 7, K: 7})
	if !layout.Same(l, yard()) {
		t.Error("an answer shares memory with what was handed in")
	}
}
