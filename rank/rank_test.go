package rank_test

import (
	"fmt"
	"math"
	"slices"
	"strconv"
	"testing"

	"lockbar/api"
	"lockbar/beyond"
	"lockbar/layout"
	"lockbar/rank"
	"lockbar/topo"
)

// end is where the track ends.
func end() api.Port { return api.Port{S: -1, P: 0} }

// goings are the ends of a kind's ways, by the way's number, as chapter 5 writes them out.
func goings(kind uint8) [][2]int {
	switch kind {
	case 1:
		return [][2]int{{0, 1}}
	case 2:
		return [][2]int{{0, 1}, {0, 2}}
	case 3:
		return [][2]int{{0, 1}, {2, 3}}
	}
	return nil
}

// numbers are such as lie at the edges, and far beyond them.
func numbers() []int {
	return []int{math.MinInt, math.MinInt + 1, math.MinInt32, -256, -13, -2, -1, 0, 1, 2, 3, 4, 5, 9, 12, 13, 23, 24, 25, 255, 256, math.MaxInt32, math.MaxUint32, 1 << 32, 1<<32 + 1, 1 << 62, math.MaxInt - 1, math.MaxInt}
}

// apart are so many sections of that kind that join to nothing, and all times at their least.
func apart(kind uint8, sections int) api.Layout {
	l := api.Layout{Times: api.Times{Clear: 1, Drive: 1, Stale: 1, Approach: 1, Over: 1, Press: 1, Link: 1}}
	for range sections {
		l.Sections = append(l.Sections, api.Section{Kind: kind, Join: [4]api.Port{end(), end(), end(), end()}})
	}
	return l
}

// tie joins two ports, both ways about.
func tie(l *api.Layout, a, b api.Port) {
	l.Sections[a.S].Join[a.P] = b
	l.Sections[b.S].Join[b.P] = a
}

// yard is a layout that hangs together: points 1 and 5, a crossing 2, all others plain. From 0 by 1 one way goes by 6 and 5, the other one by 2 and 3; from 4 one by 2 and 5. Classes are from 0 to 3.
func yard() api.Layout {
	l := apart(1, 7)
	l.Sections[1].Kind, l.Sections[5].Kind, l.Sections[2].Kind = 2, 2, 3
	for _, x := range [][2]api.Port{
		{{S: 0, P: 1}, {S: 1, P: 0}}, {{S: 1, P: 1}, {S: 2, P: 0}}, {{S: 1, P: 2}, {S: 6, P: 0}}, {{S: 2, P: 1}, {S: 3, P: 0}},
		{{S: 2, P: 2}, {S: 4, P: 1}}, {{S: 2, P: 3}, {S: 5, P: 2}}, {{S: 5, P: 1}, {S: 6, P: 1}},
	} {
		tie(&l, x[0], x[1])
	}
	l.Sections[1].Class, l.Sections[2].Class, l.Sections[3].Class, l.Sections[5].Class = [2]int{0, 2}, [2]int{1, 3}, [2]int{1, 0}, [2]int{2, 0}
	l.Signals = []api.Signal{{At: api.Port{S: 0, P: 0}}, {At: api.Port{S: 4, P: 0}}}
	l.Exits = []api.Exit{{At: api.Port{S: 5, P: 0}}, {At: api.Port{S: 3, P: 1}}, {At: api.Port{S: 1, P: 1}, Over: []api.Step{{S: 2, In: 0, Out: 1}}}}
	l.Flanks = []api.Flank{{S: 0, Way: 0, Point: 5, Pos: 1}, {S: 1, Way: 0, Point: 5, Pos: 1}, {S: 6, Way: 0, Point: 1, Pos: 0}}
	return l
}

// roller gives numbers from 0 to below n by a rule of its own, so that they are the same each time.
func roller(seed uint32) func(n int) int {
	return func(n int) int {
		seed = seed*1664525 + 1013904223
		return int(seed>>16) % n
	}
}

// mixed is a layout by numbers that may be, its sections joined: some of all kinds, most of them points, so that there are many paths; few classes, so that many are alike.
func mixed(seed uint32) api.Layout {
	roll := roller(seed)
	l := apart(1, 2+roll(8))
	var all []api.Port
	for s := range l.Sections {
		kind := []uint8{1, 2, 2, 2, 3}[roll(5)]
		l.Sections[s].Kind = kind
		for way := range goings(kind) {
			l.Sections[s].Class[way] = roll(1 + int(seed%4))
		}
		for p := range int(kind) + 1 {
			all = append(all, api.Port{S: s, P: p})
		}
	}
	for range 3 * len(all) {
		a, b := all[roll(len(all))], all[roll(len(all))]
		if a.S != b.S && l.Sections[a.S].Join[a.P] == end() && l.Sections[b.S].Join[b.P] == end() {
			tie(&l, a, b)
		}
	}
	for range roll(9) {
		f := api.Flank{S: roll(len(l.Sections)), Point: roll(len(l.Sections)), Pos: roll(2)}
		if f.S != f.Point && l.Sections[f.Point].Kind == 2 && !slices.ContainsFunc(l.Flanks, func(g api.Flank) bool { return g.S == f.S && g.Point == f.Point }) {
			l.Flanks = append(l.Flanks, f)
		}
	}
	return l
}

// mixeds are a great many of them.
func mixeds() []api.Layout {
	var all []api.Layout
	for seed := range uint32(80) {
		all = append(all, mixed(seed))
	}
	return all
}

// odds are layouts that do not hang together: of nothing, of no kinds, of wild numbers, of too many sections, joined one way about.
func odds() []api.Layout {
	lost, wild, long, one := yard(), yard(), apart(2, 40), yard()
	lost.Sections[1].Kind, lost.Sections[2].Kind, lost.Sections[6].Kind = 0, 4, 255
	for i, n := range numbers() {
		m := numbers()[i*7%len(numbers())]
		wild.Sections[i%7].Join[i/7%4] = api.Port{S: n, P: m}
		wild.Sections[i%7].Class[i/7%2] = m
		wild.Signals = append(wild.Signals, api.Signal{At: api.Port{S: n, P: m}})
		wild.Flanks = append(wild.Flanks, api.Flank{S: i % 7, Way: i % 2, Point: n, Pos: m})
	}
	for n := range 40 {
		tie(&long, api.Port{S: n, P: 1}, api.Port{S: (n + 1) % 40, P: 0})
		long.Sections[n].Class = [2]int{n - 20, 7 * n}
	}
	one.Sections[5].Join[0], one.Sections[3].Join[1] = api.Port{S: 1, P: 0}, api.Port{S: 5, P: 0}
	return []api.Layout{{}, lost, wild, long, one, {Sections: make([]api.Section, 3)}, {Signals: yard().Signals, Exits: yard().Exits}}
}

// anys are layouts of all sorts.
func anys() []api.Layout {
	return slices.Concat([]api.Layout{yard(), apart(1, 1), apart(2, 24), apart(3, 24)}, odds(), mixeds()[:60])
}

// short is how steps are written: by the section, and by the ports.
func short(numbers ...int) []api.Step {
	var all []api.Step
	for _, n := range numbers {
		all = append(all, api.Step{S: n / 100, In: n / 10 % 10, Out: n % 10})
	}
	return all
}

// way is a path of such steps.
func way(numbers ...int) api.Path {
	return api.Path{Steps: short(numbers...)}
}

// none are steps that are not there, in a yard and most others.
func none() []api.Step {
	return []api.Step{{S: 1, In: 1, Out: 2}, {S: 1, In: 1, Out: 1}, {S: 1, In: 0, Out: 3}, {S: 5, In: -1, Out: 0}, {S: 5, In: 0, Out: 0}, {S: -1, In: 0, Out: 1}, {S: 7777, In: 0, Out: 1}, {S: math.MinInt, In: math.MaxInt}, {S: math.MaxInt, In: 0, Out: 1}, {S: 1, In: 1 << 32, Out: 1}}
}

// The reference: the chapter's words, by other means than the package's.

// gone is what a step that is there has to do with rows.
type gone struct {
	class int
	pos   []int
}

// with is that of each step that is there.
func with(l api.Layout) map[api.Step]gone {
	all := map[api.Step]gone{}
	for s, x := range l.Sections {
		for w, e := range goings(x.Kind) {
			g := gone{class: x.Class[w]}
			if x.Kind == 2 {
				g.pos = []int{w}
			}
			all[api.Step{S: s, In: e[0], Out: e[1]}], all[api.Step{S: s, In: e[1], Out: e[0]}] = g, g
		}
	}
	return all
}

// rowOf is a path's row.
func rowOf(all map[api.Step]gone, p api.Path) []int {
	classes, positions := []int{0}, []int{}
	for _, s := range p.Steps {
		classes = append(classes, all[s].class)
		positions = append(positions, all[s].pos...)
	}
	return append([]int{slices.Max(classes), len(p.Steps)}, positions...)
}

// ahead tells whether a row is ahead of another one: number by number from the beginning on.
func ahead(a, b []int) bool {
	switch {
	case len(b) == 0:
		return false
	case len(a) == 0:
		return true
	case a[0] != b[0]:
		return a[0] < b[0]
	}
	return ahead(a[1:], b[1:])
}

// side is what Cmp is to answer by rows.
func side(a, b []int) int {
	if ahead(a, b) {
		return -1
	}
	if ahead(b, a) {
		return 1
	}
	return 0
}

// firstOf is the place of the first row that has none ahead of it.
func firstOf(rows [][]int) int {
	return slices.IndexFunc(rows, func(a []int) bool {
		return !slices.ContainsFunc(rows, func(b []int) bool { return ahead(b, a) })
	})
}

// sorted are paths in the order that is asked for: of those left always the first that has none ahead of it.
func sorted(all map[api.Step]gone, paths []api.Path) []api.Path {
	left, out := slices.Clone(paths), []api.Path{}
	rows := [][]int{}
	for _, p := range left {
		rows = append(rows, rowOf(all, p))
	}
	for len(left) > 0 {
		n := firstOf(rows)
		out = append(out, left[n])
		left, rows = slices.Delete(left, n, n+1), slices.Delete(rows, n, n+1)
	}
	return out
}

// samePaths tells whether two rows of paths are alike in all.
func samePaths(a, b []api.Path) bool {
	return slices.EqualFunc(a, b, func(p, q api.Path) bool {
		return p.Signal == q.Signal && p.Exit == q.Exit && slices.Equal(p.Steps, q.Steps)
	})
}

// steps are those that are there, in one order.
func steps(l api.Layout) []api.Step {
	var all []api.Step
	for s, x := range l.Sections {
		for _, e := range goings(x.Kind) {
			all = append(all, api.Step{S: s, In: e[0], Out: e[1]}, api.Step{S: s, In: e[1], Out: e[0]})
		}
	}
	return all
}

// rolled are paths of steps by a rule, most of them there; each has a signal and an exit that tell it from the others.
func rolled(l api.Layout, many, longest int, roll func(n int) int) []api.Path {
	some := append(steps(l), none()[roll(len(none()))])
	var all []api.Path
	for n := range many {
		p := api.Path{Signal: n, Exit: -n}
		for range roll(longest + 1) {
			p.Steps = append(p.Steps, some[roll(len(some))])
		}
		all = append(all, p)
	}
	return all
}

// going are paths that go on from a port, each with those that it begins with; some hundred at most.
func going(l api.Layout, from api.Port) []api.Path {
	ports, all := []api.Port{from}, []api.Path{{}}
	for n := 0; n < len(all) && n < 60; n++ {
		for _, s := range steps(l) {
			if (api.Port{S: s.S, P: s.In}) == ports[n] {
				ports = append(ports, l.Sections[s.S].Join[s.Out])
				all = append(all, api.Path{Steps: append(slices.Clone(all[n].Steps), s)})
			}
		}
	}
	return all
}

// P12.1

func TestExample(t *testing.T) {
	for i, l := range anys() {
		for _, p := range []api.Path{{}, {Steps: []api.Step{}}, {Signal: 3, Exit: -1}} {
			if got := rank.Row(l, p); !slices.Equal(got, []int{0, 0}) {
				t.Errorf("layout %d: the row of no steps is %v", i, got)
			}
		}
	}
}

func TestRowByHand(t *testing.T) {
	l := yard()
	for i, x := range []struct {
		p   api.Path
		row []int
	}{
		// Plain sections and crossings have no positions; of the class 0 the row begins with 0.
		{way(1), []int{0, 1}},
		{way(10), []int{0, 1}},
		{way(201), []int{1, 1}},
		{way(223), []int{3, 1}},
		{way(401, 223), []int{3, 2}},
		// A point's position is that of its way, either way about.
		{way(101), []int{0, 1, 0}},
		{way(110), []int{0, 1, 0}},
		{way(102), []int{2, 1, 1}},
		{way(120), []int{2, 1, 1}},
		{way(502), []int{0, 1, 1}},
		// The greatest class: of the first, of one in between, of the last; not all of them taken together.
		{way(1, 101, 201, 301), []int{1, 4, 0}},
		{way(1, 102, 601, 510), []int{2, 4, 1, 0}},
		{way(120, 10), []int{2, 2, 1}},
		{way(401, 223, 520), []int{3, 3, 1}},
		{way(201, 301, 301, 201), []int{1, 4}},
		// Positions stand in the order of the steps, flanks do not count.
		{way(510, 120), []int{2, 2, 0, 1}},
		{way(120, 510), []int{2, 2, 1, 0}},
		{way(101, 1, 102, 101, 520), []int{2, 5, 0, 1, 0, 1}},
		// Steps that are not there count as steps, they have no class and no position.
		{way(112), []int{0, 1}},
		{way(112, 501, 100, 204), []int{2, 4, 0}},
		{api.Path{Steps: none()}, []int{0, 10}},
		// Signals and exits are not asked, nor whether it goes.
		{api.Path{Signal: 9, Exit: math.MinInt, Steps: short(301, 102)}, []int{2, 2, 1}},
	} {
		if got := rank.Row(l, x.p); !slices.Equal(got, x.row) {
			t.Errorf("path %d: the row is %v, want %v", i, got, x.row)
		}
	}
}

// Classes are told as they stand, but below 0 none is.
func TestRowOfOddClasses(t *testing.T) {
	l := apart(2, 4)
	l.Sections[0].Class, l.Sections[1].Class, l.Sections[2].Class = [2]int{-1, math.MinInt}, [2]int{math.MaxInt, 4}, [2]int{0, -9}
	for i, x := range []struct {
		p   api.Path
		row []int
	}{
		{way(1), []int{0, 1, 0}}, {way(2, 1), []int{0, 2, 1, 0}}, {way(2, 202), []int{0, 2, 1, 1}}, {way(120), []int{4, 1, 1}},
		{way(2, 120, 1), []int{4, 3, 1, 1, 0}}, {way(2, 120, 110), []int{math.MaxInt, 3, 1, 1, 0}}, {way(101, 102), []int{math.MaxInt, 2, 0, 1}},
	} {
		if got := rank.Row(l, x.p); !slices.Equal(got, x.row) {
			t.Errorf("path %d: the row is %v, want %v", i, got, x.row)
		}
	}
	l.Sections[1].Kind, l.Sections[0].Kind = 7, 1
	if got := rank.Row(l, way(101, 102, 1, 2)); !slices.Equal(got, []int{0, 4}) {
		t.Errorf("of no kind: the row is %v", got)
	}
}

// Single steps, be they there or not, and rolled paths, of all layouts.
func TestRow(t *testing.T) {
	seen := map[int]int{}
	for i, l := range anys() {
		all := with(l)
		paths := rolled(l, 60, 14, roller(uint32(i)))
		for _, s := range append(steps(l), none()...) {
			paths = append(paths, api.Path{Steps: []api.Step{s}})
		}
		for _, p := range paths {
			want := rowOf(all, p)
			seen[len(want)]++
			if got := rank.Row(l, p); !slices.Equal(got, want) {
				t.Errorf("layout %d: the row of %v is %v, want %v", i, p, got, want)
			}
		}
	}
	for n := 2; n < 12; n++ {
		if seen[n] < 20 {
			t.Errorf("only %d rows of %d numbers", seen[n], n)
		}
	}
}

func TestOwnAndSame(t *testing.T) {
	all := []api.Path{{}, {Signal: math.MinInt, Exit: math.MaxInt}, {Signal: 5, Exit: 0, Steps: short(102, 601, 510)}, {Signal: -1, Steps: []api.Step{{S: math.MinInt, In: math.MaxInt, Out: -1}}}}
	for i, a := range all {
		own := rank.Own(a)
		if !samePaths([]api.Path{own}, []api.Path{a}) {
			t.Errorf("Own of %v is %v", a, own)
		}
		for j, b := range all {
			if got := rank.Same(own, b); got != (i == j) {
				t.Errorf("Same(%v, %v) is %v", own, b, got)
			}
		}
		for j, place := range places(&own) {
			for _, n := range numbers() {
				was := *place
				*place = n
				if rank.Same(a, own) != (n == was) || rank.Same(own, a) != (n == was) {
					t.Errorf("path %d, number %d: %d is the same as %d", i, j, n, was)
				}
				*place = was
			}
		}
	}
	a := all[2]
	for n := range a.Steps {
		b := a
		if b.Steps = a.Steps[:n]; rank.Same(a, b) || rank.Same(b, a) {
			t.Errorf("the first %d steps are the same as all", n)
		}
	}
	if !rank.Same(api.Path{Steps: []api.Step{}}, api.Path{}) || !rank.Same(api.Path{}, rank.Own(api.Path{Steps: make([]api.Step, 0, 9)})) {
		t.Error("no steps are no steps")
	}
}

// places are where all numbers of a path stand.
func places(p *api.Path) []*int {
	all := []*int{&p.Signal, &p.Exit}
	for n := range p.Steps {
		all = append(all, &p.Steps[n].S, &p.Steps[n].In, &p.Steps[n].Out)
	}
	return all
}

// P12.2

// wantCmp holds what Cmp answers of two paths, both ways about, against what is wanted.
func wantCmp(t *testing.T, what string, l api.Layout, a, b api.Path, want int) {
	t.Helper()
	if got := rank.Cmp(l, a, b); got != want {
		t.Errorf("%s: Cmp(%v, %v) is %d, want %d", what, a, b, got, want)
	}
	if got := rank.Cmp(l, b, a); got != -want {
		t.Errorf("%s: Cmp(%v, %v) is %d, want %d", what, b, a, got, -want)
	}
}

func TestCmpByHand(t *testing.T) {
	l := yard()
	for i, x := range []struct {
		a, b api.Path
		want int
	}{
		// The class goes ahead of how many steps, that ahead of the positions.
		{way(1, 1, 1, 1, 1), way(201), -1},
		{way(502, 502, 502), way(501), -1},
		{way(1, 502), way(101, 101, 1), -1},
		{way(201, 101), way(102), -1},
		{way(1), way(1, 1), -1},
		{way(520), way(110, 110), -1},
		// Positions: the first that is unlike, whatever is behind it.
		{way(501), way(502), 1},
		{way(101, 502), way(502, 101), -1},
		{way(101, 502, 502), way(502, 101, 101), -1},
		{way(110, 502, 101), way(101, 520, 502), -1},
		// One row is a beginning of the other one: the shorter one is ahead; not so if there is a place at which they are unlike.
		{way(1, 101), way(101, 101), -1},
		{way(1, 1), way(502, 1), -1},
		{way(1, 502), way(101, 502), 1},
		{way(502, 1), way(101, 101), 1},
		{way(112), way(101), -1},
		{api.Path{}, way(1), -1},
		{api.Path{}, way(112), -1},
		// Neither is: the same row by other steps, signals, exits; turned about; none of them.
		{way(1), way(401), 0},
		{way(101), way(110), 0},
		{way(1, 502), way(520, 112), 0},
		{way(101, 1), way(1, 101), 0},
		{api.Path{Signal: 1, Exit: -1, Steps: short(1)}, api.Path{Signal: -1, Exit: 1, Steps: short(10)}, 0},
		{api.Path{Signal: math.MinInt, Exit: math.MaxInt}, api.Path{Steps: []api.Step{}}, 0},
		{api.Path{Signal: 9, Exit: 9, Steps: short(1)}, way(1, 1), -1},
		{way(112), way(100), 0},
	} {
		wantCmp(t, "row "+strconv.Itoa(i), l, x.a, x.b, x.want)
		wantCmp(t, "with itself", l, x.a, x.a, 0)
	}
}

// The greatest numbers there are: none of them is taken from another one.
func TestCmpOfOddClasses(t *testing.T) {
	l := apart(1, 4)
	for s, c := range []int{math.MinInt, -5, math.MaxInt, math.MaxInt - 1} {
		l.Sections[s].Class[0] = c
	}
	wantCmp(t, "below 0", l, way(1), way(101), 0)
	wantCmp(t, "least and greatest", l, way(1), way(201), -1)
	wantCmp(t, "two great ones", l, way(201), way(301, 301), 1)
}

// All pairs of rolled paths, and of paths that go on from a port, of all layouts.
func TestCmp(t *testing.T) {
	seen := map[int]int{}
	for i, l := range anys() {
		all := with(l)
		paths := rolled(l, 50, 4, roller(uint32(i)))
		if len(l.Sections) > 0 {
			paths = append(paths, going(l, api.Port{S: i % len(l.Sections), P: 0})...)
		}
		for n, a := range paths {
			for _, b := range paths[:n+1] {
				want := side(rowOf(all, a), rowOf(all, b))
				seen[want]++
				wantCmp(t, "layout "+strconv.Itoa(i), l, a, b, want)
			}
		}
	}
	if seen[-1] < 1000 || seen[0] < 1000 || seen[1] < 1000 {
		t.Errorf("too few: %v", seen)
	}
}

// wantSorted holds what Least and Sort answer against what is wanted.
func wantSorted(t *testing.T, what string, l api.Layout, least int, want []api.Path, paths ...api.Path) {
	t.Helper()
	if got := rank.Least(l, paths...); got != least {
		t.Errorf("%s: Least of %v is %d, want %d", what, paths, got, least)
	}
	if got := rank.Sort(l, paths...); !samePaths(got, want) {
		t.Errorf("%s: Sort of %v is %v, want %v", what, paths, got, want)
	}
}

func TestLeastAndSortByHand(t *testing.T) {
	l := yard()
	a, b, c, d := way(1, 101), way(1, 102), way(1), way(112)
	same := api.Path{Signal: 7, Exit: 7, Steps: short(10)}
	for i, x := range []struct {
		paths []api.Path
		least int
		want  []api.Path
	}{
		{nil, -1, nil},
		{[]api.Path{}, -1, nil},
		{[]api.Path{{}}, 0, []api.Path{{}}},
		{[]api.Path{b}, 0, []api.Path{b}},
		{[]api.Path{a, b}, 0, []api.Path{a, b}},
		{[]api.Path{b, a}, 1, []api.Path{a, b}},
		{[]api.Path{b, a, c}, 2, []api.Path{c, a, b}},
		{[]api.Path{b, c, a}, 1, []api.Path{c, a, b}},
		// Of several the first; they stay in their order.
		{[]api.Path{b, same, c, d, a}, 1, []api.Path{same, c, d, a, b}},
		{[]api.Path{d, b, c, same}, 0, []api.Path{d, c, same, b}},
		{[]api.Path{a, c, a, c, same, a}, 1, []api.Path{c, c, same, a, a, a}},
		{[]api.Path{b, same, b, b, same}, 1, []api.Path{same, same, b, b, b}},
		{[]api.Path{{Signal: 2}, {Signal: 1}, {Signal: 3}, {Exit: 1}}, 0, []api.Path{{Signal: 2}, {Signal: 1}, {Signal: 3}, {Exit: 1}}},
		{[]api.Path{a, {Signal: 2}, {Signal: 1}}, 1, []api.Path{{Signal: 2}, {Signal: 1}, a}},
	} {
		wantSorted(t, "row "+strconv.Itoa(i), l, x.least, x.want, x.paths...)
	}
}

// All orders in which six paths can stand, some of them with one row.
func TestLeastAndSortOfAllOrders(t *testing.T) {
	l := yard()
	all := with(l)
	paths := []api.Path{way(1), way(10), way(1, 101), way(101, 1), way(112), way(201)}
	var orders func(n int)
	orders = func(n int) {
		if n == len(paths) {
			rows := [][]int{}
			for _, p := range paths {
				rows = append(rows, rowOf(all, p))
			}
			wantSorted(t, "six", l, firstOf(rows), sorted(all, paths), paths...)
		}
		for m := n; m < len(paths); m++ {
			paths[n], paths[m] = paths[m], paths[n]
			orders(n + 1)
			paths[n], paths[m] = paths[m], paths[n]
		}
	}
	orders(0)
}

// Of rolled paths, few and many; with short ones many have one row.
func TestLeastAndSort(t *testing.T) {
	behind := 0
	for i, l := range anys() {
		all, roll := with(l), roller(uint32(i))
		for many := range 70 {
			paths := rolled(l, many, many%5, roll)
			rows := [][]int{}
			for _, p := range paths {
				rows = append(rows, rowOf(all, p))
			}
			least := firstOf(rows)
			if least > 0 {
				behind++
			}
			wantSorted(t, "layout "+strconv.Itoa(i), l, least, sorted(all, paths), paths...)
		}
	}
	if behind < 1000 {
		t.Errorf("only %d are not first", behind)
	}
}

// P12.3

// It is an order, and hangs on rows alone: where rows are alike neither is ahead, else one is; who is ahead of one that is ahead is ahead, too.
func TestItIsAnOrderOfRows(t *testing.T) {
	for i, l := range anys() {
		paths := rolled(l, 24, 3, roller(uint32(i)))
		cmps := [24][24]int{}
		for a, p := range paths {
			for b, q := range paths {
				cmps[a][b] = rank.Cmp(l, p, q)
				if alike := slices.Equal(rank.Row(l, p), rank.Row(l, q)); alike != (cmps[a][b] == 0) || cmps[a][b] < -1 || cmps[a][b] > 1 {
					t.Errorf("layout %d: Cmp(%v, %v) is %d", i, p, q, cmps[a][b])
				}
			}
		}
		for a := range paths {
			for b := range paths {
				if cmps[a][b] != -cmps[b][a] {
					t.Errorf("layout %d: of %v and %v not just one is ahead", i, paths[a], paths[b])
				}
				for c := range paths {
					if cmps[a][b] <= 0 && cmps[b][c] <= 0 && cmps[a][c] != min(cmps[a][b], cmps[b][c]) {
						t.Errorf("layout %d: %v, %v, %v are in no order", i, paths[a], paths[b], paths[c])
					}
				}
			}
		}
	}
}

// By their positions alone some of them are told apart.
func TestOfTwoUnlikeFromOnePortOneIsAhead(t *testing.T) {
	seen, level := 0, 0
	for i, l := range slices.Concat([]api.Layout{yard()}, odds(), mixeds()) {
		if i > len(odds()) && !topo.Right(l) {
			t.Fatalf("layout %d does not hang together", i)
		}
		for s := range l.Sections {
			from := api.Port{S: s, P: (s + i) % 3}
			paths := going(l, from)
			for n, a := range paths {
				if !beyond.Goes(l, from, a.Steps...) {
					t.Fatalf("layout %d: %v does not go from %v", i, a, from)
				}
				for _, b := range paths[:n] {
					got, back := rank.Cmp(l, a, b), rank.Cmp(l, b, a)
					if got*back != -1 {
						t.Errorf("layout %d: of %v and %v from %v not just one is ahead", i, a, b, from)
					}
					seen++
					if slices.Equal(rank.Row(l, a)[:2], rank.Row(l, b)[:2]) {
						level++
					}
				}
			}
		}
	}
	if seen < 100000 || level < 10000 {
		t.Errorf("only %d pairs, %d of them by positions", seen, level)
	}
}

// R1, R3, R4 (R1's wrong numbers: all of the above; R2: no call answers an error)

func TestLongListsEnd(t *testing.T) {
	const many = 100000
	long := apart(2, many)
	long.Signals, long.Exits, long.Flanks = make([]api.Signal, many), make([]api.Exit, many), make([]api.Flank, many)
	p, q := api.Path{}, api.Path{}
	for n := range many {
		long.Sections[n].Class[1] = n
		p.Steps = append(p.Steps, api.Step{S: n, In: 0, Out: 2})
		q.Steps = append(q.Steps, api.Step{S: n, In: 1, Out: 0})
	}
	q.Steps[0] = p.Steps[many-1]
	row := rank.Row(long, p)
	if len(row) != many+2 || row[0] != many-1 || row[1] != many || slices.Max(row[2:]) != 1 || slices.Min(row[2:]) != 1 {
		t.Errorf("the long row has %d numbers", len(row))
	}
	wantCmp(t, "long", long, q, p, -1)
	if !rank.Same(rank.Own(p), p) || rank.Same(p, q) {
		t.Error("a long path is not its own")
	}
	var paths []api.Path
	for n := range many {
		paths = append(paths, api.Path{Signal: n, Steps: p.Steps[many-1-n/2 : many-n/2]})
	}
	if got := rank.Least(long, paths...); got != many-2 {
		t.Errorf("Least of many is %d", got)
	}
	for n, x := range rank.Sort(long, paths...) {
		if want := paths[many-2-n/2*2+n%2]; !rank.Same(x, want) {
			t.Fatalf("of many, number %d is %v, want %v", n, x, want)
		}
	}
}

func TestWildNumbers(t *testing.T) {
	l := yard()
	for _, n := range numbers() {
		for _, m := range numbers() {
			p := api.Path{Signal: n, Exit: m, Steps: []api.Step{{S: n, In: m, Out: 0}, {S: 1, In: 0, Out: m}}}
			if got, want := rank.Row(l, p), rowOf(with(l), p); !slices.Equal(got, want) {
				t.Errorf("the row of %v is %v, want %v", p, got, want)
			}
			wantSorted(t, "wild", l, 1, []api.Path{{}, p}, p, api.Path{})
			if !rank.Same(rank.Own(p), p) {
				t.Errorf("%v is not its own", p)
			}
		}
	}
}

// tell is what all calls tell of a layout and paths, as text.
func tell(l api.Layout, paths ...api.Path) string {
	all := fmt.Sprintln(rank.Least(l, paths...), rank.Sort(l, paths...))
	for n, p := range paths {
		q := paths[len(paths)-1-n]
		all += fmt.Sprintln(rank.Row(l, p), rank.Own(p), rank.Cmp(l, p, q), rank.Same(p, q))
	}
	return all
}

func TestAnswersHangOnTheirArgumentsAlone(t *testing.T) {
	paths := []api.Path{way(1, 102, 601, 510), way(1, 101, 201), way(112), {}, way(10)}
	was := tell(yard(), paths...)
	for i, l := range anys() {
		tell(l, paths...)
		tell(l, rolled(l, 9, 9, roller(uint32(i)))...)
		if now := tell(yard(), paths...); now != was {
			t.Fatalf("behind calls by layout %d: %s, then %s", i, was, now)
		}
	}
}

// roomy is a list in memory of its own, with spare room behind it.
func roomy[T any](all []T) []T {
	return append(slices.Clip(slices.Clone(all)), make([]T, 20)...)[:len(all)]
}

// wide is a list as long as there is room.
func wide[T any](all []T) []T { return all[:cap(all)] }

// What was handed in stays, its spare room, too.
func TestArgumentsStay(t *testing.T) {
	for i, l := range anys() {
		l = layout.Own(l)
		l.Sections, l.Signals, l.Exits, l.Flanks = roomy(l.Sections), roomy(l.Signals), roomy(l.Exits), roomy(l.Flanks)
		big := l
		big.Sections, big.Signals, big.Exits, big.Flanks = wide(l.Sections), wide(l.Signals), wide(l.Exits), wide(l.Flanks)
		was := layout.Own(big)
		paths := roomy(rolled(l, 12, 5, roller(uint32(i))))
		var before []api.Path
		for n, p := range wide(paths) {
			paths[:cap(paths)][n].Steps = roomy(p.Steps)
			p.Steps = slices.Clone(wide(paths[:cap(paths)][n].Steps))
			before = append(before, p)
		}
		tell(l, paths...)
		for n, p := range wide(paths) {
			p.Steps = wide(p.Steps)
			if !samePaths([]api.Path{p}, before[n:n+1]) {
				t.Errorf("layout %d: path %d, which was handed in, has changed", i, n)
			}
		}
		if !layout.Same(big, was) {
			t.Errorf("layout %d, which was handed in, has changed", i)
		}
	}
}

// spoil changes all of paths, their spare room, too.
func spoil(paths ...api.Path) {
	for n := range paths {
		paths[n].Signal, paths[n].Exit = 88, 88
		for m := range wide(paths[n].Steps) {
			wide(paths[n].Steps)[m] = api.Step{S: 77, In: 7, Out: 7}
		}
	}
}

// Neither what was handed in nor another answer changes with an answer, nor does one path of an answer with another one, though one path was handed in twice.
func TestAnswersShareNothing(t *testing.T) {
	l, p := yard(), api.Path{Signal: 1, Steps: roomy(short(401, 223))}
	q := api.Path{Signal: 2, Steps: p.Steps[:1]}
	all := roomy([]api.Path{p, q, p, {}})
	was, one := slices.Clone(wide(p.Steps)), []api.Path{{}, {Signal: 2, Steps: short(401)}, {Signal: 1, Steps: short(401, 223)}, {Signal: 1, Steps: short(401, 223)}}
	for n := range one {
		a, b := rank.Sort(l, all...), rank.Sort(l, all...)
		spoil(a[n])
		if !samePaths(a[:n], one[:n]) || !samePaths(a[n+1:], one[n+1:]) {
			t.Errorf("path %d shares memory with another one of its answer", n)
		}
		spoil(wide(a)...)
		if !samePaths(b, one) || !samePaths(all, []api.Path{p, q, p, {}}) {
			t.Error("sorted paths share memory with what was handed in, or with another answer")
		}
	}
	x, y := rank.Own(p), rank.Own(p)
	spoil(x)
	row, other := rank.Row(l, way(101, 102)), rank.Row(l, way(101, 102))
	for n := range wide(row) {
		wide(row)[n] = 99
	}
	if !slices.Equal(wide(p.Steps), was) || !slices.Equal(y.Steps, was[:2]) || !slices.Equal(other, []int{2, 2, 0, 1}) || !slices.Equal(rank.Row(l, way(101, 102)), other) {
		t.Error("an answer shares memory with what was handed in, or with another answer")
	}
	kept := rank.Sort(l, all...)
	spoil(all...)
	if !samePaths(kept, one) || !slices.Equal(y.Steps, was[:2]) {
		t.Error("what was handed in is kept")
	}
}
