package need_test

import (
	"fmt"
	"math"
	"slices"
	"strconv"
	"testing"

	"lockbar/api"
	"lockbar/layout"
	"lockbar/need"
	"lockbar/topo"
)

// end is where the track ends.
func end() api.Port { return api.Port{S: -1, P: 0} }

// goings are the ends of a kind's ways, by the way's number, as chapter 5 writes them out.
func goings(kind uint8) [][2]int {
	switch kind {
	case 1:
		return [][2]int{{0, 1}}
	case 2:
		return [][2]int{{0, 1}, {0, 2}}
	case 3:
		return [][2]int{{0, 1}, {2, 3}}
	}
	return nil
}

// numbers are such as lie at the edges, and far beyond them.
func numbers() []int {
	return []int{math.MinInt, math.MinInt + 1, math.MinInt32, -256, -13, -2, -1, 0, 1, 2, 3, 4, 5, 9, 12, 13, 23, 24, 25, 63, 64, 255, 256, math.MaxInt32, math.MaxUint32, 1 << 32, 1<<32 + 1, 1 << 62, math.MaxInt - 1, math.MaxInt}
}

// apart are so many sections of that kind that join to nothing, and all times at their least.
func apart(kind uint8, sections int) api.Layout {
	l := api.Layout{Times: api.Times{Clear: 1, Drive: 1, Stale: 1, Approach: 1, Over: 1, Press: 1, Link: 1}}
	for range sections {
		l.Sections = append(l.Sections, api.Section{Kind: kind, Join: [4]api.Port{end(), end(), end(), end()}})
	}
	return l
}

// tie joins two ports, both ways about.
func tie(l *api.Layout, a, b api.Port) {
	l.Sections[a.S].Join[a.P] = b
	l.Sections[b.S].Join[b.P] = a
}

// yard is a layout that hangs together: points 1 and 5, a crossing 2, all others plain. From 0 by 1 one way goes by 6 and 5, the other one by 2 and 3; from 4 one by 2 and 5. Overlaps have no, one, two steps. Flanks of one way stand apart from each other in the row, and not by their points.
func yard() api.Layout {
	l := apart(1, 7)
	l.Sections[1].Kind, l.Sections[5].Kind, l.Sections[2].Kind = 2, 2, 3
	for _, x := range [][2]api.Port{
		{{S: 0, P: 1}, {S: 1, P: 0}}, {{S: 1, P: 1}, {S: 2, P: 0}}, {{S: 1, P: 2}, {S: 6, P: 0}}, {{S: 2, P: 1}, {S: 3, P: 0}},
		{{S: 2, P: 2}, {S: 4, P: 1}}, {{S: 2, P: 3}, {S: 5, P: 2}}, {{S: 5, P: 1}, {S: 6, P: 1}},
	} {
		tie(&l, x[0], x[1])
	}
	l.Signals = []api.Signal{{At: api.Port{S: 0, P: 0}}, {At: api.Port{S: 4, P: 0}}}
	l.Exits = []api.Exit{
		{At: api.Port{S: 5, P: 0}},
		{At: api.Port{S: 1, P: 1}, Over: []api.Step{{S: 2, In: 0, Out: 1}}},
		{At: api.Port{S: 1, P: 2}, Over: []api.Step{{S: 6, In: 0, Out: 1}, {S: 5, In: 1, Out: 0}}},
		{At: api.Port{S: 5, P: 2}, Over: []api.Step{{S: 2, In: 3, Out: 2}, {S: 4, In: 1, Out: 0}}},
		{At: api.Port{S: 0, P: 1}, Over: []api.Step{{S: 1, In: 0, Out: 1}, {S: 2, In: 0, Out: 1}}},
	}
	l.Flanks = []api.Flank{
		{S: 1, Way: 1, Point: 5, Pos: 0}, {S: 2, Way: 1, Point: 5, Pos: 1}, {S: 1, Way: 0, Point: 5, Pos: 1},
		{S: 2, Way: 1, Point: 1, Pos: 0}, {S: 0, Way: 0, Point: 5, Pos: 0}, {S: 2, Way: 0, Point: 5, Pos: 0}, {S: 0, Way: 0, Point: 1, Pos: 1},
	}
	return l
}

// roller gives numbers from 0 to below n by a rule of its own, so that they are the same each time.
func roller(seed uint32) func(n int) int {
	return func(n int) int {
		seed = seed*1664525 + 1013904223
		return int(seed>>16) % n
	}
}

// mixed is a layout by numbers that may be, its sections joined: most of them points, flanks at ways of all of them, overlaps by what lies beyond.
func mixed(seed uint32) api.Layout {
	roll := roller(seed)
	l := apart(1, 2+roll(8))
	var all []api.Port
	for s := range l.Sections {
		kind := []uint8{1, 1, 2, 2, 2, 3}[roll(6)]
		l.Sections[s].Kind = kind
		for p := range int(kind) + 1 {
			all = append(all, api.Port{S: s, P: p})
		}
	}
	for range 3 * len(all) {
		a, b := all[roll(len(all))], all[roll(len(all))]
		if a.S != b.S && l.Sections[a.S].Join[a.P] == end() && l.Sections[b.S].Join[b.P] == end() {
			tie(&l, a, b)
		}
	}
	for range roll(5) {
		at := all[roll(len(all))]
		l.Exits = append(l.Exits, api.Exit{At: at, Over: walked(l, at, roll(3), roll)})
	}
	for range roll(17) {
		f := api.Flank{S: roll(len(l.Sections)), Point: roll(len(l.Sections)), Pos: roll(2)}
		f.Way = roll(len(goings(l.Sections[f.S].Kind)))
		if f.S != f.Point && l.Sections[f.Point].Kind == 2 {
			l.Flanks = append(l.Flanks, f)
		}
	}
	return l
}

// walked are steps on from a port, by what lies beyond, as many as there can be.
func walked(l api.Layout, from api.Port, many int, roll func(n int) int) []api.Step {
	var all []api.Step
	for range many {
		q := l.Sections[from.S].Join[from.P]
		if q == end() {
			break
		}
		var on []api.Step
		for _, s := range steps(l) {
			if s.S == q.S && s.In == q.P {
				on = append(on, s)
			}
		}
		s := on[roll(len(on))]
		all, from = append(all, s), api.Port{S: s.S, P: s.Out}
	}
	return all
}

// mixeds are a great many of them.
func mixeds() []api.Layout {
	var all []api.Layout
	for seed := range uint32(300) {
		all = append(all, mixed(seed))
	}
	return all
}

// odds are layouts that do not hang together: of nothing, of no kinds, of too many sections, of wild numbers, with points that are their own flanks.
func odds() []api.Layout {
	lost, wild, long, own := yard(), yard(), apart(2, 40), yard()
	lost.Sections[1].Kind, lost.Sections[2].Kind, lost.Sections[6].Kind = 0, 4, 255
	for i, n := range numbers() {
		m := numbers()[i*7%len(numbers())]
		wild.Sections[i%7].Join[i/7%4] = api.Port{S: n, P: m}
		wild.Exits = append(wild.Exits, api.Exit{At: api.Port{S: n, P: m}, Over: []api.Step{{S: n, In: m, Out: i}, {S: 5, In: 0, Out: 2}, {S: m}, {Out: 1}}[:i%5]})
		wild.Flanks = append(wild.Flanks, api.Flank{S: i % 7, Way: i % 2, Point: n, Pos: m}, api.Flank{S: n, Way: m, Point: 1, Pos: 1}, api.Flank{S: 0, Way: n, Point: 5, Pos: 0})
	}
	for n := range 40 {
		tie(&long, api.Port{S: n, P: 1}, api.Port{S: (n + 1) % 40, P: 0})
		long.Flanks = append(long.Flanks, api.Flank{S: 39, Way: n % 2, Point: n, Pos: n})
		long.Exits = append(long.Exits, api.Exit{Over: steps(long)[:n]})
	}
	own.Flanks = append(own.Flanks, api.Flank{S: 5, Way: 1, Point: 5, Pos: 0}, api.Flank{S: 6, Way: 0, Point: 6, Pos: 1}, api.Flank{S: 6, Way: 0, Point: 6, Pos: 2})
	return []api.Layout{{}, lost, wild, long, own, {Sections: make([]api.Section, 3), Exits: make([]api.Exit, 3)}, {Exits: yard().Exits, Flanks: yard().Flanks}}
}

// anys are layouts of all sorts.
func anys() []api.Layout {
	return slices.Concat([]api.Layout{yard(), apart(1, 1), apart(2, 24), apart(3, 24)}, odds(), mixeds()[:100])
}

// short is how steps are written: by the section, and by the ports.
func short(numbers ...int) []api.Step {
	var all []api.Step
	for _, n := range numbers {
		all = append(all, api.Step{S: n / 100, In: n / 10 % 10, Out: n % 10})
	}
	return all
}

// to is a path of such steps to an exit.
func to(exit int, numbers ...int) api.Path {
	return api.Path{Exit: exit, Steps: short(numbers...)}
}

// none are steps that are not there, in a yard and most others.
func none() []api.Step {
	return []api.Step{{S: 1, In: 1, Out: 2}, {S: 1, In: 1, Out: 1}, {S: 1, In: 0, Out: 3}, {S: 5, In: -1, Out: 0}, {S: 5, In: 0, Out: 0}, {S: -1, In: 0, Out: 1}, {S: 7777, In: 0, Out: 1}, {S: math.MinInt, In: math.MaxInt}, {S: math.MaxInt, In: 0, Out: 1}, {S: 1, In: 1 << 32, Out: 1}}
}

// The reference: the chapter's words, by other means than the package's.

// with is what each step that is there wants, with K 0.
func with(l api.Layout) map[api.Step][]api.Need {
	all := map[api.Step][]api.Need{}
	for s, x := range l.Sections {
		for w, e := range goings(x.Kind) {
			var wants []api.Need
			if x.Kind == 2 {
				wants = []api.Need{{P: s, Pos: w}}
			}
			for _, f := range l.Flanks {
				if f.S == s && f.Way == w {
					wants = append(wants, api.Need{P: f.Point, Pos: f.Pos})
				}
			}
			all[api.Step{S: s, In: e[0], Out: e[1]}], all[api.Step{S: s, In: e[1], Out: e[0]}] = wants, wants
		}
	}
	return all
}

// neededBy is what a path needs.
func neededBy(l api.Layout, all map[api.Step][]api.Need, p api.Path) []api.Need {
	rows := [][]api.Need{}
	for _, s := range p.Steps {
		rows = append(rows, all[s])
	}
	for x, e := range l.Exits {
		if x == p.Exit {
			last := []api.Need{}
			for _, s := range e.Over {
				last = append(last, all[s]...)
			}
			rows = append(rows, last)
		}
	}
	needs := []api.Need{}
	for k, row := range rows {
		for _, n := range row {
			needs = append(needs, api.Need{P: n.P, Pos: n.Pos, K: k})
		}
	}
	return needs
}

// clashing tells whether two of needs want one point both ways, by looking at each two.
func clashing(all []api.Need) bool {
	for n, a := range all {
		for _, b := range all[n+1:] {
			if a.P == b.P && a.Pos != b.Pos {
				return true
			}
		}
	}
	return false
}

// steps are those that are there, in one order.
func steps(l api.Layout) []api.Step {
	var all []api.Step
	for s, x := range l.Sections {
		for _, e := range goings(x.Kind) {
			all = append(all, api.Step{S: s, In: e[0], Out: e[1]}, api.Step{S: s, In: e[1], Out: e[0]})
		}
	}
	return all
}

// rolled are paths of steps by a rule, most of them there, to exits most of which are there.
func rolled(l api.Layout, many, longest int, roll func(n int) int) []api.Path {
	some := append(steps(l), none()[roll(len(none()))])
	var all []api.Path
	for n := range many {
		p := api.Path{Signal: n, Exit: roll(len(l.Exits)+2) - 1}
		for range roll(longest + 1) {
			p.Steps = append(p.Steps, some[roll(len(some))])
		}
		all = append(all, p)
	}
	return all
}

// going are paths that go on from a port, each with those that it begins with; some hundred at most. Each exit's number is there now and then.
func going(l api.Layout, from api.Port) []api.Path {
	ports, all := []api.Port{from}, []api.Path{{Exit: -1}}
	for n := 0; n < len(all) && n < 60; n++ {
		for _, s := range steps(l) {
			if (api.Port{S: s.S, P: s.In}) == ports[n] {
				ports = append(ports, l.Sections[s.S].Join[s.Out])
				all = append(all, api.Path{Exit: len(all)%(len(l.Exits)+1) - 1, Steps: append(slices.Clone(all[n].Steps), s)})
			}
		}
	}
	return all
}

// paths are such as go, and such as are rolled, of a layout.
func paths(l api.Layout, seed int) []api.Path {
	all := rolled(l, 40, 1+seed%14, roller(uint32(seed)))
	if len(l.Sections) > 0 {
		all = append(all, going(l, api.Port{S: seed % len(l.Sections), P: seed % 2})...)
	}
	return all
}

// P13.1

// wantOf holds what Of and Fine answer against what is wanted.
func wantOf(t *testing.T, what string, l api.Layout, p api.Path, want []api.Need, fine bool) {
	t.Helper()
	if got := need.Of(l, p); !slices.Equal(got, want) {
		t.Errorf("%s: %v needs %v, want %v", what, p, got, want)
	}
	if got := need.Fine(l, p); got != fine {
		t.Errorf("%s: Fine of %v is %v", what, p, got)
	}
}

func TestOfByHand(t *testing.T) {
	l := yard()
	for i, x := range []struct {
		p    api.Path
		want []api.Need
		fine bool
	}{
		// Nothing: of no steps, of plain ones and crossings without flanks, of steps that are not there, of exits that have no overlap or are not there.
		{to(0), nil, true},
		{to(0, 601, 301, 310, 401), nil, true},
		{api.Path{Exit: -1, Steps: none()}, nil, true},
		{to(5, 301), nil, true},
		{to(math.MinInt, 301), nil, true},
		{to(math.MaxInt), nil, true},
		// A step's own point goes ahead of its flanks, these in order of their numbers; either way about.
		{to(0, 102), []api.Need{{P: 1, Pos: 1}, {P: 5, Pos: 0}}, true},
		{to(0, 120), []api.Need{{P: 1, Pos: 1}, {P: 5, Pos: 0}}, true},
		{to(0, 101), []api.Need{{P: 1, Pos: 0}, {P: 5, Pos: 1}}, true},
		{to(0, 502), []api.Need{{P: 5, Pos: 1}}, true},
		{to(0, 1), []api.Need{{P: 5, Pos: 0}, {P: 1, Pos: 1}}, true},
		{to(0, 223), []api.Need{{P: 5, Pos: 1}, {P: 1, Pos: 0}}, true},
		{to(0, 210), []api.Need{{P: 5, Pos: 0}}, true},
		// Step by step; those that are not there have numbers, too.
		{to(0, 1, 102, 601, 510), []api.Need{{P: 5, Pos: 0, K: 0}, {P: 1, Pos: 1, K: 0}, {P: 1, Pos: 1, K: 1}, {P: 5, Pos: 0, K: 1}, {P: 5, Pos: 0, K: 3}}, true},
		{to(0, 112, 501, 109, 510), []api.Need{{P: 5, Pos: 0, K: 1}, {P: 5, Pos: 0, K: 3}}, true},
		{to(0, 301, 102, 301, 102), []api.Need{{P: 1, Pos: 1, K: 1}, {P: 5, Pos: 0, K: 1}, {P: 1, Pos: 1, K: 3}, {P: 5, Pos: 0, K: 3}}, true},
		// Both ways: a point by two steps, by a step and a flank, by two flanks; neighbours, and far apart.
		{to(0, 501, 502), []api.Need{{P: 5, Pos: 0, K: 0}, {P: 5, Pos: 1, K: 1}}, false},
		{to(0, 502, 301, 401, 501), []api.Need{{P: 5, Pos: 1, K: 0}, {P: 5, Pos: 0, K: 3}}, false},
		{to(0, 1, 101), []api.Need{{P: 5, Pos: 0, K: 0}, {P: 1, Pos: 1, K: 0}, {P: 1, Pos: 0, K: 1}, {P: 5, Pos: 1, K: 1}}, false},
		{to(0, 1, 310, 502), []api.Need{{P: 5, Pos: 0, K: 0}, {P: 1, Pos: 1, K: 0}, {P: 5, Pos: 1, K: 2}}, false},
		{to(0, 201, 223), []api.Need{{P: 5, Pos: 0, K: 0}, {P: 5, Pos: 1, K: 1}, {P: 1, Pos: 0, K: 1}}, false},
		// The overlap behind all steps, by how many there are; of no steps that is 0.
		{to(1), []api.Need{{P: 5, Pos: 0, K: 0}}, true},
		{to(2), []api.Need{{P: 5, Pos: 0, K: 0}}, true},
		{to(3, 502), []api.Need{{P: 5, Pos: 1, K: 0}, {P: 5, Pos: 1, K: 1}, {P: 1, Pos: 0, K: 1}}, true},
		{to(2, 1, 102), []api.Need{{P: 5, Pos: 0, K: 0}, {P: 1, Pos: 1, K: 0}, {P: 1, Pos: 1, K: 1}, {P: 5, Pos: 0, K: 1}, {P: 5, Pos: 0, K: 2}}, true},
		{to(1, 112, 301, 100), []api.Need{{P: 5, Pos: 0, K: 3}}, true},
		// An overlap that the path clashes with; one that clashes with itself; of two steps both have one number.
		{to(1, 101), []api.Need{{P: 1, Pos: 0, K: 0}, {P: 5, Pos: 1, K: 0}, {P: 5, Pos: 0, K: 1}}, false},
		{to(3, 501, 301), []api.Need{{P: 5, Pos: 0, K: 0}, {P: 5, Pos: 1, K: 2}, {P: 1, Pos: 0, K: 2}}, false},
		{to(4, 301), []api.Need{{P: 1, Pos: 0, K: 1}, {P: 5, Pos: 1, K: 1}, {P: 5, Pos: 0, K: 1}}, false},
		{to(4), []api.Need{{P: 1, Pos: 0, K: 0}, {P: 5, Pos: 1, K: 0}, {P: 5, Pos: 0, K: 0}}, false},
		// The signal is not asked, nor whether it goes.
		{api.Path{Signal: math.MinInt, Exit: 1, Steps: short(301, 502)}, []api.Need{{P: 5, Pos: 1, K: 1}, {P: 5, Pos: 0, K: 2}}, false},
		{api.Path{Signal: 99, Exit: 0, Steps: short(510, 102)}, []api.Need{{P: 5, Pos: 0, K: 0}, {P: 1, Pos: 1, K: 1}, {P: 5, Pos: 0, K: 1}}, true},
	} {
		wantOf(t, "path "+strconv.Itoa(i), l, x.p, x.want, x.fine)
	}
}

// Paths of all layouts, those that go and others.
func TestOf(t *testing.T) {
	seen, overs := map[bool]int{}, 0
	for i, l := range anys() {
		all := with(l)
		for _, p := range paths(l, i) {
			want := neededBy(l, all, p)
			if len(want) > 2 {
				seen[clashing(want)]++
			}
			if len(want) > 0 && want[0].K < want[len(want)-1].K && want[len(want)-1].K == len(p.Steps) {
				overs++
			}
			wantOf(t, "layout "+strconv.Itoa(i), l, p, want, !clashing(want))
		}
	}
	if seen[true] < 1000 || seen[false] < 500 || overs < 500 {
		t.Errorf("too few: %v, %d with overlaps", seen, overs)
	}
}

// One step, to each exit, of each layout.
func TestOfOneStep(t *testing.T) {
	for i, l := range anys() {
		all := with(l)
		for _, s := range append(steps(l), none()...) {
			for x := -1; x <= len(l.Exits); x++ {
				p := api.Path{Exit: x, Steps: []api.Step{s}}
				want := neededBy(l, all, p)
				wantOf(t, "layout "+strconv.Itoa(i), l, p, want, !clashing(want))
			}
		}
	}
}

// P13.2

// some are needs by a rule: of few points, most of them at one position.
func some(many int, roll func(n int) int) []api.Need {
	var all []api.Need
	for k := range many {
		n := api.Need{P: roll(9) - 2, K: k}
		n.Pos = n.P & 1
		if roll(12) == 0 {
			n.Pos = roll(4) - 1
		}
		all = append(all, n)
	}
	return all
}

// wild are needs of numbers at the edges, and far beyond them.
func wild() []api.Need {
	var all []api.Need
	for i, n := range numbers() {
		all = append(all, api.Need{P: n, Pos: numbers()[i*7%len(numbers())], K: numbers()[i*11%len(numbers())]})
	}
	return all
}

func TestExample(t *testing.T) {
	a, b := api.Need{P: 3, Pos: 0}, api.Need{P: 3, Pos: 1}
	if !need.Clash([]api.Need{a, b}) || !need.Clash([]api.Need{a}, b) || !need.Clash(nil, b, a) {
		t.Error("needs of 3 at 0 and at 1 do not clash")
	}
}

func TestClashByHand(t *testing.T) {
	normal, reverse, other := api.Need{P: 3, Pos: 0}, api.Need{P: 3, Pos: 1, K: 5}, api.Need{P: 4, Pos: 1}
	for i, x := range []struct {
		a, b []api.Need
		want bool
	}{
		{nil, nil, false},
		{[]api.Need{}, []api.Need{}, false},
		{[]api.Need{normal}, nil, false},
		{nil, []api.Need{normal}, false},
		// One point at one position, by whatever step; two points at two.
		{[]api.Need{normal, normal}, []api.Need{normal}, false},
		{[]api.Need{normal}, []api.Need{{P: 3, Pos: 0, K: 9}}, false},
		{[]api.Need{normal, other}, []api.Need{other, normal}, false},
		{[]api.Need{{P: 0, Pos: 0}}, []api.Need{{P: 1, Pos: 1}}, false},
		// Both ways: between them, in either one alone, with others between, of one step or two.
		{[]api.Need{normal}, []api.Need{reverse}, true},
		{[]api.Need{reverse}, []api.Need{normal}, true},
		{[]api.Need{normal, reverse}, nil, true},
		{[]api.Need{reverse, other, normal}, []api.Need{other}, true},
		{nil, []api.Need{normal, reverse}, true},
		{[]api.Need{other}, []api.Need{other, reverse, other, normal}, true},
		{[]api.Need{normal, other, normal}, []api.Need{other, other, {P: 3, Pos: 1}}, true},
		{[]api.Need{{P: 0, Pos: 1}}, []api.Need{{P: 0, Pos: 0}}, true},
		{[]api.Need{{P: 0, Pos: 0}, {P: 0, Pos: 0}}, []api.Need{{P: 0, Pos: 1}}, true},
		// Numbers that may not be are unlike as others are.
		{[]api.Need{{P: -1, Pos: 2}}, []api.Need{{P: -1, Pos: -2}}, true},
		{[]api.Need{{P: -1, Pos: 2}}, []api.Need{{P: -1, Pos: 2}}, false},
		{[]api.Need{{P: 0, Pos: 0}}, []api.Need{{P: 1 << 32, Pos: 1}}, false},
		{[]api.Need{{P: 7, Pos: 0}}, []api.Need{{P: 7, Pos: 1 << 32}}, true},
		{[]api.Need{{P: math.MinInt, Pos: math.MinInt}}, []api.Need{{P: math.MinInt, Pos: math.MaxInt}}, true},
	} {
		if got := need.Clash(x.a, x.b...); got != x.want {
			t.Errorf("row %d: Clash(%v, %v) is %v", i, x.a, x.b, got)
		}
	}
}

// All rows of up to five of four needs, cut at all places.
func TestClashOfAllRows(t *testing.T) {
	four := []api.Need{{P: 0, Pos: 0}, {P: 0, Pos: 1, K: 1}, {P: 1, Pos: 0, K: 2}, {P: 1, Pos: 2}}
	rows := [][]api.Need{nil}
	for n := 0; n < len(rows); n++ {
		for _, x := range four {
			if len(rows[n]) < 5 {
				rows = append(rows, append(slices.Clone(rows[n]), x))
			}
		}
		for at := range len(rows[n]) + 1 {
			if got, want := need.Clash(rows[n][:at], rows[n][at:]...), clashing(rows[n]); got != want {
				t.Errorf("Clash of %v, cut at %d, is %v", rows[n], at, got)
			}
		}
	}
	if len(rows) != 1+4+16+64+256+1024 {
		t.Errorf("%d rows", len(rows))
	}
}

// Needs by a rule, and what paths need.
func TestClash(t *testing.T) {
	roll, seen := roller(5), map[bool]int{}
	var lists [][]api.Need
	for n := range 3000 {
		lists = append(lists, some(n%30, roll))
	}
	for i, l := range anys() {
		for _, p := range paths(l, i) {
			lists = append(lists, need.Of(l, p))
		}
	}
	for n, a := range lists {
		b := lists[(n*7+1)%len(lists)]
		both := slices.Concat(a, b)
		want := clashing(both)
		seen[want]++
		if need.Clash(a, b...) != want || need.Clash(b, a...) != want || need.Clash(both) != want || need.Clash(nil, both...) != want {
			t.Errorf("Clash(%v, %v) is not %v", a, b, want)
		}
	}
	if seen[true] < 1000 || seen[false] < 1000 {
		t.Errorf("too few: %v", seen)
	}
}

func TestAtByHand(t *testing.T) {
	a := []api.Need{{P: 3, Pos: 1, K: 2}, {P: 0, Pos: 0, K: 7}, {P: 3, Pos: 0}, {P: -1, Pos: 5}, {P: 8, Pos: 1}, {P: 8, Pos: 1, K: 1}, {P: 0, Pos: 1}}
	for _, x := range []struct {
		p, pos int
		ok     bool
	}{
		// The first of them; 0 is a position as others are.
		{3, 1, true}, {0, 0, true}, {-1, 5, true}, {8, 1, true},
		{1, 0, false}, {2, 0, false}, {7, 0, false}, {-3, 0, false}, {1<<32 + 3, 0, false}, {math.MinInt, 0, false}, {math.MaxInt, 0, false},
	} {
		if pos, ok := need.At(a, x.p); pos != x.pos || ok != x.ok {
			t.Errorf("At(a, %d) is %d, %v", x.p, pos, ok)
		}
		if pos, ok := need.At(nil, x.p); pos != 0 || ok {
			t.Errorf("of no needs %d is wanted at %d", x.p, pos)
		}
	}
	if pos, ok := need.At(a[2:], 3); pos != 0 || !ok {
		t.Errorf("At of the others is %d, %v", pos, ok)
	}
}

// wantTold holds what At and Points tell of needs against what a map of the first of each point tells.
func wantTold(t *testing.T, what string, all []api.Need) {
	t.Helper()
	first := map[int]int{}
	for n := len(all) - 1; n >= 0; n-- {
		first[all[n].P] = all[n].Pos
	}
	got := need.Points(all...)
	for n, p := range got {
		if _, ok := first[p]; !ok || n > 0 && got[n-1] >= p {
			t.Errorf("%s: the points of %v are %v", what, all, got)
		}
	}
	if len(got) != len(first) {
		t.Errorf("%s: of %d points %v are told", what, len(first), got)
	}
	for p := range first {
		for _, q := range []int{p - 1, p, p + 1} {
			want, is := first[q]
			if pos, ok := need.At(all, q); pos != want || ok != is {
				t.Errorf("%s: At(%v, %d) is %d, %v", what, all, q, pos, ok)
			}
		}
	}
}

func TestPointsByHand(t *testing.T) {
	for _, x := range []struct {
		a    []api.Need
		want []int
	}{
		{nil, nil},
		{[]api.Need{}, []int{}},
		{[]api.Need{{}}, []int{0}},
		{[]api.Need{{P: 5, Pos: 1, K: 3}}, []int{5}},
		// Rising, whatever the order; each once, be it wanted both ways, next to each other or not.
		{[]api.Need{{P: 5}, {P: 2}, {P: 9}}, []int{2, 5, 9}},
		{[]api.Need{{P: 9}, {P: 10}, {P: 1}}, []int{1, 9, 10}},
		{[]api.Need{{P: 5, Pos: 1}, {P: 5, Pos: 1}, {P: 5, Pos: 0}}, []int{5}},
		{[]api.Need{{P: 5}, {P: 2, Pos: 1}, {P: 5}, {P: 2}}, []int{2, 5}},
		{[]api.Need{{P: 0}, {P: -1}, {P: math.MaxInt}, {P: math.MinInt}, {P: 1 << 32}, {P: -1}}, []int{math.MinInt, -1, 0, 1 << 32, math.MaxInt}},
	} {
		if got := need.Points(x.a...); !slices.Equal(got, x.want) {
			t.Errorf("Points(%v) is %v, want %v", x.a, got, x.want)
		}
	}
}

func TestAtAndPoints(t *testing.T) {
	roll := roller(9)
	for n := range 2000 {
		wantTold(t, "rolled", some(n%40, roll))
	}
	for i, l := range anys() {
		for _, p := range paths(l, i) {
			wantTold(t, "layout "+strconv.Itoa(i), need.Of(l, p))
		}
	}
	wantTold(t, "wild", wild())
	wantTold(t, "wild twice", append(wild(), wild()...))
}

func TestSame(t *testing.T) {
	lists := [][]api.Need{{{}}, {{}, {}}, {{P: 1}}, {{Pos: 1}}, {{K: 1}}, {{P: 1}, {Pos: 1}}, {{Pos: 1}, {P: 1}}, {{P: 1, Pos: 1, K: 1}}, wild(), some(9, roller(1))}
	for i, a := range lists {
		for j, b := range lists {
			if got := need.Same(a, slices.Clone(b)); got != (i == j) {
				t.Errorf("Same(%v, %v) is %v", a, b, got)
			}
		}
		if need.Same(a, nil) || need.Same(nil, a) {
			t.Errorf("%v are no needs", a)
		}
		for n := range a {
			if need.Same(a[:n], a) || need.Same(a, a[:n]) {
				t.Errorf("the first %d of %v are the same as all", n, a)
			}
		}
	}
	if !need.Same(nil, nil) || !need.Same(nil, []api.Need{}) || !need.Same(make([]api.Need, 0, 9), nil) {
		t.Error("no needs are no needs")
	}
}

func TestSameOfEachNumber(t *testing.T) {
	for i, a := range [][]api.Need{wild(), some(12, roller(2)), {{P: 3, Pos: 1, K: 2}}} {
		b := slices.Clone(a)
		for n := range b {
			for m, place := range []*int{&b[n].P, &b[n].Pos, &b[n].K} {
				for _, x := range numbers() {
					was := *place
					*place = x
					if need.Same(a, b) != (x == was) || need.Same(b, a) != (x == was) {
						t.Errorf("needs %d, %d, number %d: %d is the same as %d", i, n, m, x, was)
					}
					*place = was
				}
			}
		}
	}
}

// P13.3

// behind are such layouts as hang together, and others.
func behind(t *testing.T) []api.Layout {
	t.Helper()
	right := 0
	all := slices.Concat([]api.Layout{yard()}, mixeds(), odds())
	for _, l := range all {
		if topo.Right(l) {
			right++
		}
	}
	if right < 50 || !topo.Right(all[0]) {
		t.Fatalf("only %d hang together", right)
	}
	return all
}

// Of what can be locked each need is at what At tells; of what can't be some need is not.
func TestWhatCanBeLockedTellsOnePosition(t *testing.T) {
	seen := map[bool]int{}
	for i, l := range behind(t) {
		for _, p := range paths(l, i) {
			needs := need.Of(l, p)
			one := !slices.ContainsFunc(needs, func(n api.Need) bool {
				pos, ok := need.At(needs, n.P)
				return !ok || pos != n.Pos
			})
			if need.Fine(l, p) != one || need.Clash(needs) == one {
				t.Errorf("layout %d: %v needs %v", i, p, needs)
			}
			if len(needs) > len(need.Points(needs...)) {
				seen[one]++
			}
		}
	}
	if seen[true] < 500 || seen[false] < 500 {
		t.Errorf("too few: %v", seen)
	}
}

// Through a point each step of what can be locked wants it by its way.
func TestThroughAPointItIsThatOfTheWay(t *testing.T) {
	seen := [2]int{}
	for i, l := range behind(t) {
		for _, p := range paths(l, i) {
			if !need.Fine(l, p) {
				continue
			}
			for _, s := range p.Steps {
				way, there := layout.Step(l, s)
				if !there || l.Sections[s.S].Kind != api.SePoint {
					continue
				}
				if pos, ok := need.At(need.Of(l, p), s.S); !ok || pos != way {
					t.Errorf("layout %d: %v needs %d at %d, %v", i, p, s.S, pos, ok)
				}
				seen[way]++
			}
		}
	}
	if slices.Min(seen[:]) < 1000 {
		t.Errorf("too few: %v", seen)
	}
}

// without are the needs that are not of the overlap.
func without(needs []api.Need, steps int) []api.Need {
	return slices.DeleteFunc(slices.Clone(needs), func(n api.Need) bool { return n.K == steps })
}

// What is left out of the end of a path leaves the first needs as they were.
func TestALongerPathHasThoseOfItsBeginning(t *testing.T) {
	seen, fewer := 0, 0
	for i, l := range behind(t) {
		for _, p := range paths(l, i) {
			all := without(need.Of(l, p), len(p.Steps))
			for n := range p.Steps {
				first := p
				first.Steps = p.Steps[:n]
				begin := without(need.Of(l, first), n)
				if len(begin) > len(all) || !need.Same(begin, all[:len(begin)]) {
					t.Errorf("layout %d: %v needs %v, its first %d steps %v", i, p, all, n, begin)
				}
				if need.Clash(begin) && need.Fine(l, p) {
					t.Errorf("layout %d: %v can be locked, its first %d steps can't", i, p, n)
				}
				seen += len(begin)
				fewer += len(need.Of(l, first)) - len(begin)
			}
		}
	}
	if seen < 10000 || fewer < 1000 {
		t.Errorf("only %d needs, %d of overlaps", seen, fewer)
	}
}

// R1, R3, R4 (R1's wrong numbers: all of the above; R2: no call answers an error)

func TestLongListsEnd(t *testing.T) {
	const many = 200000
	long, p := apart(2, many), api.Path{Exit: many - 1}
	long.Signals, long.Exits = make([]api.Signal, many), make([]api.Exit, many)
	for n := range many {
		p.Steps = append(p.Steps, api.Step{S: n, In: n % 2, Out: 1 - n%2})
	}
	long.Exits[many-1].Over = append(p.Steps[1:many:many], api.Step{S: many - 1, In: 0, Out: 2})
	needs := need.Of(long, p)
	if len(needs) != 2*many || needs[many-1] != (api.Need{P: many - 1, K: many - 1}) || needs[many] != (api.Need{P: 1, K: many}) || needs[2*many-1] != (api.Need{P: many - 1, Pos: 1, K: many}) {
		t.Errorf("a long path has %d needs", len(needs))
	}
	if need.Fine(long, p) || !need.Clash(needs) || !need.Clash(needs[:many], needs[many:]...) || need.Clash(needs[:many], needs[many:2*many-1]...) {
		t.Error("of the last point both ways")
	}
	points := need.Points(needs...)
	if len(points) != many || points[many-1] != many-1 || !slices.IsSorted(points) {
		t.Errorf("%d points", len(points))
	}
	_, last := need.At(needs[:many], many-1)
	_, none := need.At(needs, many)
	if !last || none || !need.Same(needs, need.Of(long, p)) || need.Same(needs, needs[1:]) {
		t.Error("the last of many")
	}
	long.Flanks = make([]api.Flank, many)
	if got := need.Of(long, to(0, 1, 0)); len(got) != many+1 || !need.Fine(long, to(0, 1)) || need.Fine(long, to(0, 2, 1)) {
		t.Errorf("many flanks make %d needs", len(got))
	}
}

func TestNilIsEmpty(t *testing.T) {
	empty := api.Layout{Sections: []api.Section{}, Signals: []api.Signal{}, Exits: []api.Exit{}, Flanks: []api.Flank{}}
	over := apart(2, 1)
	over.Exits, over.Flanks = []api.Exit{{Over: nil}, {Over: []api.Step{}}, {Over: make([]api.Step, 0, 9)}}, []api.Flank{}
	for i, l := range []api.Layout{{}, empty, over} {
		for x := -1; x < 4; x++ {
			for _, steps := range [][]api.Step{nil, {}, make([]api.Step, 0, 9), none()} {
				wantOf(t, "empty "+strconv.Itoa(i), l, api.Path{Exit: x, Steps: steps}, nil, true)
			}
		}
	}
	for _, a := range [][]api.Need{nil, {}, make([]api.Need, 0, 9)} {
		pos, ok := need.At(a, 0)
		if need.Clash(a) || need.Clash(a, a...) || need.Clash(nil, a...) || len(need.Points(a...)) != 0 || pos != 0 || ok || !need.Same(a, nil) {
			t.Errorf("of no needs: %d, %v", pos, ok)
		}
	}
}

func TestWildPaths(t *testing.T) {
	l := yard()
	all := with(l)
	for _, n := range numbers() {
		for _, m := range numbers() {
			p := api.Path{Signal: n, Exit: m, Steps: []api.Step{{S: n, In: m, Out: 0}, {S: 1, In: 0, Out: m}, {S: 5, In: n, Out: 2}}}
			want := neededBy(l, all, p)
			wantOf(t, "wild", l, p, want, !clashing(want))
		}
	}
}

// tell is what all calls tell of a layout and paths, as text.
func tell(l api.Layout, paths ...api.Path) string {
	all := ""
	for n, p := range paths {
		a, b := need.Of(l, p), need.Of(l, paths[len(paths)-1-n])
		pos, ok := need.At(a, 5)
		all += fmt.Sprintln(a, need.Fine(l, p), need.Clash(a, b...), pos, ok, need.Points(a...), need.Same(a, b))
	}
	return all
}

func TestAnswersHangOnTheirArgumentsAlone(t *testing.T) {
	some := []api.Path{to(0, 1, 102, 601, 510), to(1, 1, 101), to(3, 401, 223), {}, to(4), to(2, 102)}
	was := tell(yard(), some...)
	for i, l := range anys() {
		tell(l, some...)
		tell(l, paths(l, i)...)
		if now := tell(yard(), some...); now != was {
			t.Fatalf("behind calls by layout %d: %s, then %s", i, was, now)
		}
	}
}

// roomy is a list in memory of its own, with spare room behind it.
func roomy[T any](all []T) []T {
	return append(slices.Clip(slices.Clone(all)), make([]T, 20)...)[:len(all)]
}

// wide is a list as long as there is room.
func wide[T any](all []T) []T { return all[:cap(all)] }

// spoil writes over all of a list, its spare room, too.
func spoil[T any](all []T, by T) {
	for n := range wide(all) {
		wide(all)[n] = by
	}
}

// A layout and a path that were handed in stay, their spare room, too, though what they need is written over.
func TestLayoutsAndPathsStay(t *testing.T) {
	for i, l := range anys() {
		l = layout.Own(l)
		l.Sections, l.Signals, l.Exits, l.Flanks = roomy(l.Sections), roomy(l.Signals), roomy(l.Exits), roomy(l.Flanks)
		for n, x := range l.Exits {
			l.Exits[n].Over = roomy(x.Over)
		}
		big := l
		big.Sections, big.Signals, big.Flanks, big.Exits = wide(l.Sections), wide(l.Signals), wide(l.Flanks), slices.Clone(wide(l.Exits))
		for n, x := range big.Exits {
			big.Exits[n].Over = wide(x.Over)
		}
		was := layout.Own(big)
		for _, p := range paths(l, i) {
			p.Steps = roomy(p.Steps)
			before := slices.Clone(wide(p.Steps))
			need.Fine(l, p)
			spoil(need.Of(l, p), api.Need{P: 77, Pos: 7, K: 7})
			if !slices.Equal(wide(p.Steps), before) {
				t.Errorf("layout %d: path %v, which was handed in, has changed", i, p)
			}
		}
		if !layout.Same(big, was) || !slices.Equal(wide(l.Signals), was.Signals) {
			t.Errorf("layout %d, which was handed in, has changed", i)
		}
	}
}

// So do needs: they are neither sorted where they stand nor put behind each other in their spare room.
func TestNeedsStay(t *testing.T) {
	roll := roller(3)
	for n := range 400 {
		a, b := roomy(some(n%20, roll)), roomy(some(n%17, roll))
		wasA, wasB := slices.Clone(wide(a)), slices.Clone(wide(b))
		need.Clash(a, b...)
		need.Clash(a)
		need.Clash(nil, b...)
		need.At(a, 3)
		need.Same(a, b)
		spoil(need.Points(a...), 77)
		spoil(need.Points(b...), 77)
		if !slices.Equal(wide(a), wasA) || !slices.Equal(wide(b), wasB) {
			t.Errorf("needs that were handed in have changed: %v, %v", wasA, wasB)
		}
	}
}

// wantApart tells of two answers of which one is written over by what is done to the other.
func wantApart[T comparable](t *testing.T, what string, ask func() []T, by T) {
	t.Helper()
	was := slices.Clone(ask())
	a, b := ask(), ask()
	spoil(a, by)
	if !slices.Equal(b, was) || !slices.Equal(ask(), was) || len(was) == 0 {
		t.Errorf("%s: %v, then %v, %v", what, was, b, ask())
	}
}

func TestAnswersShareNothing(t *testing.T) {
	l, p := yard(), to(3, 401, 223, 520)
	wantApart(t, "Of", func() []api.Need { return need.Of(l, p) }, api.Need{P: 77, Pos: 7, K: 7})
	wantApart(t, "Of an overlap alone", func() []api.Need { return need.Of(l, to(3)) }, api.Need{P: 77, Pos: 7, K: 7})
	a := need.Of(l, p)
	wantApart(t, "Points", func() []int { return need.Points(a...) }, 77)
	if !layout.Same(l, yard()) || !slices.Equal(p.Steps, short(401, 223, 520)) || !need.Same(a, need.Of(l, p)) {
		t.Error("an answer shares memory with what was handed in")
	}
	points := need.Points(a...)
	was := slices.Clone(points)
	kept := slices.Clone(a)
	spoil(l.Flanks, api.Flank{S: 5, Point: 99})
	spoil(l.Sections, api.Section{})
	spoil(p.Steps, api.Step{})
	if !slices.Equal(a, kept) {
		t.Error("the layout or the path that was handed in is kept")
	}
	spoil(a, api.Need{P: 99})
	if !slices.Equal(points, was) {
		t.Error("needs that were handed in are kept")
	}
}
