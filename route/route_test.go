package route_test

import (
	"fmt"
	"math"
	"slices"
	"strconv"
	"testing"

	"lockbar/api"
	"lockbar/layout"
	"lockbar/port"
	"lockbar/route"
	"lockbar/topo"
)

// The limits are written out here, so that a wrong one would be seen.
const (
	mostSections = 24
	mostPath     = 12
	mostVias     = 2
)

// end is where the track ends.
func end() api.Port { return api.Port{S: -1, P: 0} }

// goings are the ends of a kind's ways, by the way's number, as chapter 5 writes them out.
func goings(kind uint8) [][2]int {
	switch kind {
	case 1:
		return [][2]int{{0, 1}}
	case 2:
		return [][2]int{{0, 1}, {0, 2}}
	case 3:
		return [][2]int{{0, 1}, {2, 3}}
	}
	return nil
}

// numbers are such as lie at the edges, and far beyond them.
func numbers() []int {
	return []int{math.MinInt, math.MinInt + 1, math.MinInt32, -256, -13, -2, -1, 0, 1, 2, 3, 4, 5, 9, 11, 12, 13, 23, 24, 25, 255, 256, math.MaxInt32, math.MaxUint32, 1 << 32, 1<<32 + 1, 1 << 62, math.MaxInt - 1, math.MaxInt}
}

// apart are so many sections of that kind that join to nothing, and all times at their least.
func apart(kind uint8, sections int) api.Layout {
	l := api.Layout{Times: api.Times{Clear: 1, Drive: 1, Stale: 1, Approach: 1, Over: 1, Press: 1, Link: 1}}
	for range sections {
		l.Sections = append(l.Sections, api.Section{Kind: kind, Join: [4]api.Port{end(), end(), end(), end()}})
	}
	return l
}

// tie joins two ports, both ways about.
func tie(l *api.Layout, a, b api.Port) {
	l.Sections[a.S].Join[a.P] = b
	l.Sections[b.S].Join[b.P] = a
}

// line is so many plain sections, the end of each joined to the beginning of the next; a signal at the first one's beginning, an exit at the end of each.
func line(sections int) api.Layout {
	l := apart(1, sections)
	for n := range sections - 1 {
		tie(&l, api.Port{S: n, P: 1}, api.Port{S: n + 1, P: 0})
	}
	l.Signals = []api.Signal{{At: api.Port{S: 0, P: 0}}}
	for n := max(0, sections-12); n < sections; n++ {
		l.Exits = append(l.Exits, api.Exit{At: api.Port{S: n, P: 1}})
	}
	return l
}

// yard is a layout that hangs together: points 1 and 5, a crossing 2, all others plain. From 0 by 1 one way goes by 6 and 5 to 8, the other one by 2, 3, 7, 4, and 2 the other way to 5 and 8. 9 and 10 are joined at both ends, and apart from the others.
func yard() api.Layout {
	l := apart(1, 11)
	l.Sections[1].Kind, l.Sections[5].Kind, l.Sections[2].Kind = 2, 2, 3
	for _, x := range [][2]api.Port{
		{{S: 0, P: 1}, {S: 1, P: 0}}, {{S: 1, P: 1}, {S: 2, P: 0}}, {{S: 1, P: 2}, {S: 6, P: 0}}, {{S: 2, P: 1}, {S: 3, P: 0}},
		{{S: 2, P: 2}, {S: 4, P: 1}}, {{S: 2, P: 3}, {S: 5, P: 2}}, {{S: 5, P: 1}, {S: 6, P: 1}}, {{S: 3, P: 1}, {S: 7, P: 0}},
		{{S: 7, P: 1}, {S: 4, P: 0}}, {{S: 5, P: 0}, {S: 8, P: 0}}, {{S: 9, P: 0}, {S: 10, P: 1}}, {{S: 9, P: 1}, {S: 10, P: 0}},
	} {
		tie(&l, x[0], x[1])
	}
	l.Signals = []api.Signal{
		{At: api.Port{S: 0, P: 0}}, {At: api.Port{S: 4, P: 0}}, {At: api.Port{S: 8, P: 1}},
		{At: api.Port{S: 9, P: 0}}, {At: api.Port{S: 6, P: 1}}, {At: api.Port{S: 1, P: 0}},
	}
	l.Exits = []api.Exit{
		{At: api.Port{S: 8, P: 1}},
		{At: api.Port{S: 7, P: 1}, Over: []api.Step{{S: 4, In: 0, Out: 1}, {S: 2, In: 2, Out: 3}}},
		{At: api.Port{S: 3, P: 1}, Over: []api.Step{{S: 7, In: 0, Out: 1}}},
		{At: api.Port{S: 9, P: 1}},
		{At: api.Port{S: 0, P: 0}},
		{At: api.Port{S: 1, P: 0}, Over: []api.Step{{S: 0, In: 1, Out: 0}}},
	}
	return l
}

// changed is a yard with something done to it.
func changed(change func(l *api.Layout)) api.Layout {
	l := yard()
	change(&l)
	return l
}

// roller gives numbers from 0 to below n by a rule of its own, so that they are the same each time.
func roller(seed uint32) func(n int) int {
	return func(n int) int {
		seed = seed*1664525 + 1013904223
		return int(seed>>16) % n
	}
}

// mixed is a layout by numbers that may be, its sections joined: some of all kinds, signals and exits at ports of their own, overlaps by what lies beyond.
func mixed(seed uint32) api.Layout {
	roll := roller(seed)
	l := apart(1, 2+roll(10))
	var all []api.Port
	for s := range l.Sections {
		// Mostly points, so that there are many paths.
		kind := []uint8{1, 2, 2, 2, 3}[roll(5)]
		l.Sections[s].Kind = kind
		for p := range int(kind) + 1 {
			all = append(all, api.Port{S: s, P: p})
		}
	}
	for range 3 * len(all) {
		a, b := all[roll(len(all))], all[roll(len(all))]
		if a.S != b.S && l.Sections[a.S].Join[a.P] == end() && l.Sections[b.S].Join[b.P] == end() {
			tie(&l, a, b)
		}
	}
	for range 1 + roll(4) {
		at := all[roll(len(all))]
		if !slices.Contains(l.Signals, api.Signal{At: at}) {
			l.Signals = append(l.Signals, api.Signal{At: at})
		}
	}
	for range 1 + roll(12) {
		at := all[roll(len(all))]
		if !slices.ContainsFunc(l.Exits, func(x api.Exit) bool { return x.At == at }) {
			l.Exits = append(l.Exits, api.Exit{At: at, Over: walked(l, at, roll(3), roll)})
		}
	}
	return l
}

// walked are steps on from a port, by what lies beyond, as many as there can be.
func walked(l api.Layout, from api.Port, many int, roll func(n int) int) []api.Step {
	var all []api.Step
	for range many {
		ways := into(l, l.Sections[from.S].Join[from.P])
		if len(ways) == 0 {
			break
		}
		s := ways[roll(len(ways))]
		all, from = append(all, s), api.Port{S: s.S, P: s.Out}
	}
	return all
}

// whole are layouts that hang together.
func whole(t *testing.T) []api.Layout {
	t.Helper()
	all := []api.Layout{yard(), line(1), line(mostSections)}
	for seed := range uint32(700) {
		if l := mixed(seed); topo.Right(l) {
			all = append(all, l)
		}
	}
	if len(all) < 300 || !topo.Right(all[0]) || !topo.Right(all[1]) || !topo.Right(all[2]) {
		t.Fatalf("only %d hang together", len(all))
	}
	return all
}

// odds are layouts that do not hang together: of nothing, of wrong numbers, of too much, of rules that are broken.
func odds() []api.Layout {
	wild, long := yard(), apart(2, 40)
	for i, n := range numbers() {
		m := numbers()[i*7%len(numbers())]
		wild.Sections[i%10].Join[i/10%4] = api.Port{S: n, P: m}
		wild.Signals = append(wild.Signals, api.Signal{At: api.Port{S: n, P: i % 3}}, api.Signal{At: api.Port{S: i % 10, P: m}})
		wild.Exits = append(wild.Exits, api.Exit{At: api.Port{S: n, P: m}, Over: []api.Step{{S: n, In: m, Out: i}, {S: m}, {}, {Out: n}}[:i%5]})
	}
	for n := range 40 {
		tie(&long, api.Port{S: n, P: 1}, api.Port{S: (n + 1) % 40, P: 0})
	}
	return []api.Layout{
		{}, wild, long, {Sections: make([]api.Section, 3), Signals: make([]api.Signal, 3), Exits: make([]api.Exit, 3)},
		changed(func(l *api.Layout) { l.Times.Link = 0 }),
		changed(func(l *api.Layout) { l.Sections = nil }),
		changed(func(l *api.Layout) { l.Sections[10].Kind = 4 }),
		changed(func(l *api.Layout) { l.Flanks = []api.Flank{{S: 1, Point: 1}} }),
		changed(func(l *api.Layout) { l.Exits[0].Over = make([]api.Step, 3) }),
		changed(func(l *api.Layout) { l.Sections[10].Join[0] = end() }),
		changed(func(l *api.Layout) { l.Signals[5] = l.Signals[4] }),
		changed(func(l *api.Layout) { l.Exits[5].At = l.Exits[4].At }),
		changed(func(l *api.Layout) { l.Exits[0].Over = []api.Step{{S: 3, In: 0, Out: 1}} }),
		changed(func(l *api.Layout) { l.Flanks = []api.Flank{{S: 1, Point: 5}, {S: 1, Point: 5}} }),
	}
}

// The reference: the chapter's words, by other means than the package's: paths are made, from the signal on, not looked at.

// steps are those that are there.
func steps(l api.Layout) []api.Step {
	var all []api.Step
	for s, x := range l.Sections {
		for _, e := range goings(x.Kind) {
			all = append(all, api.Step{S: s, In: e[0], Out: e[1]}, api.Step{S: s, In: e[1], Out: e[0]})
		}
	}
	return all
}

// into are the steps that enter by a port.
func into(l api.Layout, p api.Port) []api.Step {
	return slices.DeleteFunc(steps(l), func(s api.Step) bool { return s.S != p.S || s.In != p.P })
}

// follow tells whether steps, all of them there, go on one from the other.
func follow(l api.Layout, row []api.Step) bool {
	if slices.ContainsFunc(row, func(s api.Step) bool { return !slices.Contains(steps(l), s) }) {
		return false
	}
	for len(row) > 1 {
		if !slices.Contains(into(l, l.Sections[row[0].S].Join[row[0].Out]), row[1]) {
			return false
		}
		row = row[1:]
	}
	return true
}

// made are all Route paths, whatever the vias, of a layout that hangs together, by their texts.
func made(l api.Layout) map[string]api.Path {
	all := map[string]api.Path{}
	stands := map[api.Port]int{}
	for _, s := range l.Signals {
		stands[s.At]++
	}
	for n, s := range l.Signals {
		rows := [][]api.Step{}
		for _, first := range into(l, s.At) {
			rows = append(rows, []api.Step{first})
		}
		for ; len(rows) > 0; rows = rows[1:] {
			row := rows[0]
			last := row[len(row)-1]
			for x, exit := range l.Exits {
				if (exit.At == api.Port{S: last.S, P: last.Out}) && clearOf(row, exit.Over) {
					p := api.Path{Signal: n, Exit: x, Steps: row}
					all[fmt.Sprint(p)] = p
				}
			}
			beyond := l.Sections[last.S].Join[last.Out]
			for _, next := range into(l, beyond) {
				if len(row) < 12 && stands[beyond] == 0 && clearOf(row, []api.Step{next}) {
					rows = append(rows, append(slices.Clone(row), next))
				}
			}
		}
	}
	return all
}

// clearOf tells whether two rows of steps go through no section both.
func clearOf(a, b []api.Step) bool {
	through := map[int]int{}
	for _, s := range a {
		through[s.S]++
	}
	return !slices.ContainsFunc(b, func(s api.Step) bool { return through[s.S] > 0 })
}

// by tells whether vias are found among sections, each behind the one ahead: for the last one all places are tried.
func by(sections, vias []int) bool {
	if len(vias) == 0 {
		return true
	}
	last := len(vias) - 1
	for n, s := range sections {
		if s == vias[last] && by(sections[:n], vias[:last]) {
			return true
		}
	}
	return false
}

// sections are those of a path's steps.
func sections(p api.Path) []int {
	var all []int
	for _, s := range p.Steps {
		all = append(all, s.S)
	}
	return all
}

// viaLists are all lists of up to so many numbers from -1 to below a bound, and one above it.
func viaLists(many, below int) [][]int {
	all := [][]int{nil}
	for n := 0; n < len(all); n++ {
		for v := -1; v <= below && len(all[n]) < many; v++ {
			all = append(all, append(slices.Clone(all[n]), v))
		}
	}
	return all
}

// wanted is what Check is to answer, of a layout that hangs together, all of whose Route paths are those.
func wanted(l api.Layout, all map[string]api.Path, p api.Path, vias []int) api.Errno {
	none := func(v int) bool { return v < 0 || v >= len(l.Sections) }
	if p.Signal < 0 || p.Signal >= len(l.Signals) || p.Exit < 0 || p.Exit >= len(l.Exits) || len(vias) > mostVias || slices.ContainsFunc(vias, none) {
		return 2
	}
	if _, ok := all[fmt.Sprint(p)]; !ok || !by(sections(p), vias) {
		return 110
	}
	return 0
}

// wantCheck holds what Check and Is answer against what is wanted.
func wantCheck(t *testing.T, what string, l api.Layout, p api.Path, vias []int, want api.Errno) {
	t.Helper()
	if got := route.Check(l, p, vias...); got != want {
		t.Errorf("%s: Check of %v by %v is %d, want %d", what, p, vias, got, want)
	}
	if got := route.Is(l, p, vias...); got != (want == 0) {
		t.Errorf("%s: Is of %v by %v is %v", what, p, vias, got)
	}
}

// P11.1

func TestLimitsAreThoseOfTheApi(t *testing.T) {
	if api.MaxPath != mostPath || api.MaxVias != mostVias || api.MaxSections != mostSections {
		t.Error("another limit")
	}
	if api.ErrArg != 2 || api.ErrRoute != 110 {
		t.Error("another error")
	}
}

func TestExample(t *testing.T) {
	l := apart(1, 1)
	l.Signals = []api.Signal{{At: api.Port{S: 0, P: 0}}}
	l.Exits = []api.Exit{{At: api.Port{S: 0, P: 1}}}
	p := api.Path{Steps: []api.Step{{S: 0, In: 0, Out: 1}}}
	wantCheck(t, "one plain section", l, p, nil, api.OK)
	wantCheck(t, "by itself", l, p, []int{0}, api.OK)
	wantCheck(t, "by itself, twice", l, p, []int{0, 0}, api.ErrRoute)
	wantCheck(t, "by another", l, p, []int{1}, api.ErrArg)
}

// short is how steps of the yard are written: by the section, and by the ports.
func short(numbers ...int) []api.Step {
	var all []api.Step
	for _, n := range numbers {
		all = append(all, api.Step{S: n / 100, In: n / 10 % 10, Out: n % 10})
	}
	return all
}

func TestRoutePathsByHand(t *testing.T) {
	l := yard()
	round := changed(func(l *api.Layout) { l.Signals = []api.Signal{{At: api.Port{S: 0, P: 0}}, {At: api.Port{S: 2, P: 0}}} })
	for i, x := range []struct {
		l    api.Layout
		p    api.Path
		want api.Errno
	}{
		// From signal 5, behind signal 0: by the point's one way or the other; where another signal stands for trains the other way about; to an exit in between.
		{l, api.Path{Signal: 5, Exit: 0, Steps: short(102, 601, 510, 801)}, api.OK},
		{l, api.Path{Signal: 5, Exit: 2, Steps: short(101, 201, 301)}, api.OK},
		{l, api.Path{Signal: 1, Exit: 0, Steps: short(401, 223, 520, 801)}, api.OK},
		{l, api.Path{Signal: 4, Exit: 4, Steps: short(610, 120, 10)}, api.OK},
		{l, api.Path{Signal: 4, Exit: 5, Steps: short(610, 120)}, api.OK},
		{l, api.Path{Signal: 3, Exit: 3, Steps: short(901)}, api.OK},
		// No steps; one too few at either end, one too many, one in between.
		{l, api.Path{Signal: 5, Exit: 0}, api.ErrRoute},
		{l, api.Path{Signal: 5, Exit: 0, Steps: []api.Step{}}, api.ErrRoute},
		{l, api.Path{Signal: 5, Exit: 0, Steps: short(601, 510, 801)}, api.ErrRoute},
		{l, api.Path{Signal: 5, Exit: 0, Steps: short(102, 601, 510)}, api.ErrRoute},
		{l, api.Path{Signal: 5, Exit: 0, Steps: short(102, 510, 801)}, api.ErrRoute},
		{l, api.Path{Signal: 5, Exit: 0, Steps: short(1, 102, 601, 510, 801)}, api.ErrRoute},
		{l, api.Path{Signal: 4, Exit: 5, Steps: short(610, 120, 10)}, api.ErrRoute},
		// A step that is none: from a point's one end to the other; back out; through a port, a section that is not there.
		{l, api.Path{Signal: 5, Exit: 0, Steps: short(102, 601, 512, 232)}, api.ErrRoute},
		{l, api.Path{Signal: 5, Exit: 0, Steps: short(103, 601, 510, 801)}, api.ErrRoute},
		{l, api.Path{Signal: 5, Exit: 4, Steps: short(100, 10)}, api.ErrRoute},
		{l, api.Path{Signal: 3, Exit: 3, Steps: []api.Step{{S: 11, In: 0, Out: 1}}}, api.ErrRoute},
		{l, api.Path{Signal: 3, Exit: 3, Steps: []api.Step{{S: -1, In: 0, Out: 1}}}, api.ErrRoute},
		// Another signal's, or exit's.
		{l, api.Path{Signal: 0, Exit: 0, Steps: short(102, 601, 510, 801)}, api.ErrRoute},
		{l, api.Path{Signal: 5, Exit: 1, Steps: short(102, 601, 510, 801)}, api.ErrRoute},
		{l, api.Path{Signal: 5, Exit: 3, Steps: short(901)}, api.ErrRoute},
		{l, api.Path{Signal: 3, Exit: 0, Steps: short(901)}, api.ErrRoute},
		// Past a signal: the next one, one further on; not so without it.
		{l, api.Path{Signal: 0, Exit: 2, Steps: short(1, 101, 201, 301)}, api.ErrRoute},
		{l, api.Path{Signal: 2, Exit: 4, Steps: short(810, 501, 610, 120, 10)}, api.ErrRoute},
		{round, api.Path{Signal: 0, Exit: 0, Steps: short(1, 102, 601, 510, 801)}, api.OK},
		{round, api.Path{Signal: 0, Exit: 2, Steps: short(1, 101, 201, 301)}, api.ErrRoute},
		{round, api.Path{Signal: 1, Exit: 2, Steps: short(201, 301)}, api.OK},
		{changed(func(l *api.Layout) { l.Signals[0], l.Signals[5] = l.Signals[5], l.Signals[0] }), api.Path{Signal: 5, Exit: 2, Steps: short(1, 101, 201, 301)}, api.ErrRoute},
		// Through the crossing by both of its ways, and through plain ones round and round.
		{round, api.Path{Signal: 1, Exit: 0, Steps: short(201, 301, 701, 401, 223, 520, 801)}, api.ErrRoute},
		{changed(func(l *api.Layout) { l.Signals[3].At = api.Port{S: 10, P: 0} }), api.Path{Signal: 3, Exit: 3, Steps: short(1001, 901)}, api.OK},
		{changed(func(l *api.Layout) { l.Signals[3].At = api.Port{S: 10, P: 0} }), api.Path{Signal: 3, Exit: 3, Steps: short(1001, 901, 1001, 901)}, api.ErrRoute},
		// Through what is of the overlap, of its last step, by the crossing's other way.
		{round, api.Path{Signal: 1, Exit: 1, Steps: short(201, 301, 701)}, api.ErrRoute},
		{l, api.Path{Signal: 5, Exit: 1, Steps: short(101, 201, 301, 701)}, api.ErrRoute},
		{changed(func(l *api.Layout) { l.Exits[1].Over = l.Exits[1].Over[:1] }), api.Path{Signal: 5, Exit: 1, Steps: short(101, 201, 301, 701)}, api.OK},
		{changed(func(l *api.Layout) { l.Signals[1].At, l.Exits[1].Over = api.Port{S: 2, P: 0}, l.Exits[1].Over[:1] }), api.Path{Signal: 1, Exit: 1, Steps: short(201, 301, 701)}, api.OK},
		{changed(func(l *api.Layout) { l.Signals[1].At = api.Port{S: 3, P: 0} }), api.Path{Signal: 1, Exit: 1, Steps: short(301, 701)}, api.OK},
	} {
		wantCheck(t, "path "+strconv.Itoa(i), x.l, x.p, nil, x.want)
	}
}

// A signal within the overlap, and one at what lies beyond the exit, are none at a port by which a step enters.
func TestSignalsInTheOverlapDoNotMatter(t *testing.T) {
	l := changed(func(l *api.Layout) {
		l.Signals[3].At, l.Signals[1].At = api.Port{S: 7, P: 0}, api.Port{S: 7, P: 1}
	})
	wantCheck(t, "beyond the exit", l, api.Path{Signal: 5, Exit: 2, Steps: short(101, 201, 301)}, nil, api.OK)
	l.Signals[2].At = api.Port{S: 3, P: 1}
	wantCheck(t, "at the exit", l, api.Path{Signal: 5, Exit: 2, Steps: short(101, 201, 301)}, nil, api.OK)
}

// From 1 to MaxPath steps, no more.
func TestHowManySteps(t *testing.T) {
	for many := 1; many <= mostSections; many++ {
		p := api.Path{}
		for s := range many {
			p.Steps = append(p.Steps, api.Step{S: s, In: 0, Out: 1})
		}
		want := api.OK
		if many > 12 {
			want = api.ErrRoute
		}
		l := line(many)
		p.Exit = len(l.Exits) - 1
		wantCheck(t, "line", l, p, nil, want)
		wantCheck(t, "line, by the last one", l, p, []int{many - 1}, want)
	}
}

// Each error ahead of ErrRoute, by a path that is one and by one that is none; and each without any other.
func TestErrArg(t *testing.T) {
	l, p := yard(), api.Path{Signal: 5, Exit: 0, Steps: short(102, 601, 510, 801)}
	none := api.Path{Signal: 5, Exit: 0}
	for i, odd := range odds() {
		for _, p := range []api.Path{p, none, {}, {Signal: -1, Exit: 99}, {Steps: short(1)}} {
			for _, vias := range [][]int{nil, {6}, {1, 2, 3}, {-1}} {
				wantCheck(t, "layout "+strconv.Itoa(i), odd, p, vias, api.ErrArg)
			}
		}
	}
	for _, n := range numbers() {
		for _, p := range []api.Path{p, none} {
			a, b := p, p
			a.Signal, b.Exit = n, n
			if n < 0 || n > 5 {
				wantCheck(t, "signal", l, a, nil, api.ErrArg)
				wantCheck(t, "exit", l, b, nil, api.ErrArg)
			}
			if n < 0 || n > 10 {
				for _, vias := range [][]int{{n}, {n, 6}, {6, n}, {n, n}} {
					wantCheck(t, "via", l, p, vias, api.ErrArg)
				}
			}
		}
	}
	for _, p := range []api.Path{p, none} {
		for _, vias := range [][]int{{1, 6, 5}, {1, 6, 5, 8}, {6, 6, 6}, {3, 3, 3}, make([]int, 300)} {
			wantCheck(t, "too many vias", l, p, vias, api.ErrArg)
		}
	}
	bare := changed(func(l *api.Layout) { l.Signals = nil })
	wantCheck(t, "no signals", bare, api.Path{Steps: p.Steps}, nil, api.ErrArg)
	bare = changed(func(l *api.Layout) { l.Exits = nil })
	wantCheck(t, "no exits", bare, api.Path{Signal: 5, Steps: p.Steps}, nil, api.ErrArg)
}

func TestViasByHand(t *testing.T) {
	l, p := yard(), api.Path{Signal: 5, Exit: 0, Steps: short(102, 601, 510, 801)}
	for i, x := range []struct {
		vias []int
		want api.Errno
	}{
		{nil, api.OK}, {[]int{}, api.OK}, {[]int{1}, api.OK}, {[]int{8}, api.OK}, {[]int{1, 8}, api.OK}, {[]int{6, 5}, api.OK},
		{[]int{5, 6}, api.ErrRoute}, {[]int{8, 1}, api.ErrRoute}, {[]int{6, 6}, api.ErrRoute}, {[]int{0}, api.ErrRoute}, {[]int{1, 2}, api.ErrRoute}, {[]int{2, 1}, api.ErrRoute},
	} {
		wantCheck(t, "vias "+strconv.Itoa(i), l, p, x.vias, x.want)
	}
	// What is of the overlap alone is not gone through.
	wantCheck(t, "overlap", l, api.Path{Signal: 5, Exit: 2, Steps: short(101, 201, 301)}, []int{7}, api.ErrRoute)
}

// All rows of up to four steps that are there, and two that are not, of each signal and each exit of two small layouts.
func TestAllSmallPaths(t *testing.T) {
	l := apart(1, 3)
	l.Sections[1].Kind, l.Sections[2].Kind = 2, 3
	for _, x := range [][2]api.Port{{{S: 0, P: 1}, {S: 1, P: 0}}, {{S: 1, P: 1}, {S: 2, P: 0}}, {{S: 1, P: 2}, {S: 2, P: 3}}} {
		tie(&l, x[0], x[1])
	}
	l.Signals = []api.Signal{{At: api.Port{S: 0, P: 0}}, {At: api.Port{S: 2, P: 1}}, {At: api.Port{S: 2, P: 2}}}
	l.Exits = []api.Exit{{At: api.Port{S: 2, P: 1}}, {At: api.Port{S: 0, P: 0}}, {At: api.Port{S: 1, P: 2}, Over: []api.Step{{S: 2, In: 3, Out: 2}}}, {At: api.Port{S: 2, P: 2}}}
	other := layout.Own(l)
	other.Signals = append(other.Signals, api.Signal{At: api.Port{S: 1, P: 0}}, api.Signal{At: api.Port{S: 2, P: 3}})
	tie(&other, api.Port{S: 2, P: 1}, api.Port{S: 0, P: 0})
	other.Exits[0].Over = []api.Step{{S: 0, In: 0, Out: 1}}
	for i, l := range []api.Layout{l, other} {
		if !topo.Right(l) {
			t.Fatalf("layout %d does not hang together", i)
		}
		all, found := made(l), 0
		for _, row := range rows(append(steps(l), api.Step{S: 1, In: 1, Out: 2}, api.Step{S: 3, In: 0, Out: 1}), 4) {
			for n := range (len(l.Signals) + 1) * (len(l.Exits) + 1) {
				p := api.Path{Signal: n % (len(l.Signals) + 1), Exit: n / (len(l.Signals) + 1), Steps: row}
				want := wanted(l, all, p, nil)
				if want == 0 {
					found++
				}
				if got := route.Check(l, p); got != want {
					t.Errorf("layout %d: Check of %v is %d, want %d", i, p, got, want)
				}
			}
		}
		if found != len(all) || found < 4 {
			t.Errorf("layout %d: %d Route paths of %d", i, found, len(all))
		}
	}
}

// rows are all of up to so many of some.
func rows(some []api.Step, many int) [][]api.Step {
	all := [][]api.Step{nil}
	for n := 0; n < len(all); n++ {
		for _, s := range some {
			if len(all[n]) < many {
				all = append(all, append(slices.Clone(all[n]), s))
			}
		}
	}
	return all
}

// All Route paths of all layouts, by all vias.
func TestAllRoutePathsByAllVias(t *testing.T) {
	paths, through := 0, 0
	for i, l := range whole(t) {
		all := made(l)
		for n, p := range sample(all, 25) {
			paths++
			for _, vias := range viaLists(mostVias, len(l.Sections)) {
				want := wanted(l, all, p, vias)
				if want == 0 && len(vias) == mostVias {
					through++
				}
				wantCheck(t, fmt.Sprint("layout ", i, ", path ", n), l, p, vias, want)
			}
		}
	}
	if paths < 500 || through < 500 {
		t.Errorf("too few: %d paths, %d by two vias", paths, through)
	}
}

// sample are at most so many of some paths, in order of their texts.
func sample(all map[string]api.Path, many int) []api.Path {
	var texts []string
	for text := range all {
		texts = append(texts, text)
	}
	slices.Sort(texts)
	var some []api.Path
	for n := 0; n < len(texts); n += 1 + len(texts)/many {
		some = append(some, all[texts[n]])
	}
	return some
}

// Route paths with something done to them, of all layouts.
func TestSpoiltPaths(t *testing.T) {
	got := map[api.Errno]int{}
	for i, l := range whole(t) {
		all := made(l)
		for n, p := range sample(all, 8) {
			for _, q := range spoilt(l, p) {
				want := wanted(l, all, q, nil)
				got[want]++
				wantCheck(t, fmt.Sprint("layout ", i, ", path ", n), l, q, nil, want)
			}
		}
	}
	if got[0] < 100 || got[2] < 1000 || got[110] < 1000 {
		t.Errorf("too few: by errors %v", got)
	}
}

// spoilt are such paths: each of the numbers another, a step left out, put twice, put elsewhere, turned, put ahead or behind.
func spoilt(l api.Layout, p api.Path) []api.Path {
	var all []api.Path
	give := func(change func(q *api.Path)) {
		q := api.Path{Signal: p.Signal, Exit: p.Exit, Steps: slices.Clone(p.Steps)}
		change(&q)
		all = append(all, q)
	}
	for n := -1; n <= 12; n++ {
		give(func(q *api.Path) { q.Signal = n })
		give(func(q *api.Path) { q.Exit = n })
	}
	for n, s := range p.Steps {
		for by := -2; by < 3; by++ {
			give(func(q *api.Path) { q.Steps[n].S += by })
			give(func(q *api.Path) { q.Steps[n].In += by })
			give(func(q *api.Path) { q.Steps[n].Out += by })
		}
		give(func(q *api.Path) { q.Steps[n] = port.Turned(s) })
		give(func(q *api.Path) { q.Steps = slices.Delete(q.Steps, n, n+1) })
		give(func(q *api.Path) { q.Steps = slices.Insert(q.Steps, n, s) })
		give(func(q *api.Path) { q.Steps = q.Steps[:n] })
		give(func(q *api.Path) { q.Steps = q.Steps[n:] })
		give(func(q *api.Path) { q.Steps[0], q.Steps[n] = q.Steps[n], q.Steps[0] })
	}
	for _, s := range steps(l) {
		give(func(q *api.Path) { q.Steps = append(q.Steps, s) })
		give(func(q *api.Path) { q.Steps = slices.Insert(q.Steps, 0, s) })
	}
	give(func(q *api.Path) { q.Steps = turned(q.Steps) })
	give(func(q *api.Path) { slices.Reverse(q.Steps) })
	return all
}

// turned are steps the other way about: the last one first, each from where it left to where it entered.
func turned(row []api.Step) []api.Step {
	var all []api.Step
	for _, s := range slices.Backward(row) {
		all = append(all, api.Step{S: s.S, In: s.Out, Out: s.In})
	}
	return all
}

// Steps that go from a signal to an exit, with no heed of the other rules: past signals, through sections twice, through overlaps, too far.
func TestWalksFromSignalsToExits(t *testing.T) {
	got := map[string]int{}
	for i, l := range whole(t) {
		all, roll := made(l), roller(uint32(i))
		for n, s := range l.Signals {
			for range 40 {
				first := into(l, s.At)
				row := []api.Step{first[roll(len(first))]}
				row = append(row, walked(l, api.Port{S: row[0].S, P: row[0].Out}, roll(15), roll)...)
				last := row[len(row)-1]
				x := layout.Exit(l, api.Port{S: last.S, P: last.Out})
				if x < 0 {
					continue
				}
				p := api.Path{Signal: n, Exit: x, Steps: row}
				want := wanted(l, all, p, nil)
				got[why(l, p)+" "+strconv.Itoa(int(want))]++
				wantCheck(t, "layout "+strconv.Itoa(i), l, p, nil, want)
			}
		}
	}
	for _, x := range []string{"nothing 0", "long 110", "twice 110", "overlap 110", "signal 110"} {
		if got[x] < 20 {
			t.Errorf("too few that are wrong by %s", x)
		}
		delete(got, x)
	}
	delete(got, "several 110")
	if len(got) > 0 {
		t.Errorf("neither right nor wrong: %v", got)
	}
}

// why is what alone makes a walk from a signal to an exit no Route path.
func why(l api.Layout, p api.Path) string {
	all := []string{}
	through, signals := map[int]int{}, 0
	for n, s := range p.Steps {
		through[s.S]++
		if n > 0 && slices.Contains(l.Signals, api.Signal{At: api.Port{S: s.S, P: s.In}}) {
			signals++
		}
	}
	if len(p.Steps) > 12 {
		all = append(all, "long")
	}
	// What is far too long mostly comes again, too.
	if len(through) < len(p.Steps) && len(p.Steps) <= 12 {
		all = append(all, "twice")
	}
	if !clearOf(p.Steps, l.Exits[p.Exit].Over) {
		all = append(all, "overlap")
	}
	if signals > 0 {
		all = append(all, "signal")
	}
	switch len(all) {
	case 0:
		return "nothing"
	case 1:
		return all[0]
	}
	return "several"
}

// P11.2

// All rows of up to three steps, there or not, of small layouts, one joined one way about.
func TestGoes(t *testing.T) {
	l := apart(1, 3)
	l.Sections[1].Kind, l.Sections[2].Kind = 2, 3
	tie(&l, api.Port{S: 0, P: 1}, api.Port{S: 1, P: 0})
	tie(&l, api.Port{S: 1, P: 1}, api.Port{S: 2, P: 0})
	tie(&l, api.Port{S: 1, P: 2}, api.Port{S: 2, P: 3})
	one := layout.Own(l)
	one.Sections[2].Join[0], one.Sections[0].Join[1] = api.Port{S: 0, P: 0}, api.Port{S: 0, P: 1}
	for i, l := range []api.Layout{l, one} {
		some := append(steps(l), api.Step{S: 1, In: 1, Out: 2}, api.Step{S: 0, In: 1, Out: 1}, api.Step{S: -1, In: 0, Out: 1}, api.Step{S: 3, In: 0, Out: 1})
		seen := [4]int{}
		for _, row := range rows(some, 3) {
			want := follow(l, row)
			if want {
				seen[len(row)]++
			}
			if got := route.Goes(l, row...); got != want {
				t.Errorf("layout %d: Goes(%v) is %v", i, row, got)
			}
		}
		if seen[0] != 1 || seen[1] != 10 || seen[2] < 4 || seen[3] < 2 {
			t.Errorf("layout %d: too few go: by steps %v", i, seen)
		}
	}
}

func TestGoesByHand(t *testing.T) {
	l := yard()
	for i, x := range []struct {
		row  []api.Step
		want bool
	}{
		{nil, true},
		{[]api.Step{}, true},
		{short(101), true},
		{short(101, 201, 301, 701, 401, 223, 520, 801), true},
		// Nothing is said of sections, of signals, of how many.
		{short(901, 1001, 901, 1001, 901, 1001, 901, 1001, 901, 1001, 901, 1001, 901), true},
		{short(1, 101, 201), true},
		{short(810, 501, 610, 120, 10), true},
		// No way goes so: alone, first, last, in between.
		{short(112), false},
		{short(100), false},
		{short(203), false},
		{short(21), false},
		{short(112, 601), false},
		{short(1, 103), false},
		{short(101, 202, 401), false},
		{[]api.Step{{S: -1, In: 0, Out: 1}}, false},
		{[]api.Step{{S: 11, In: 0, Out: 1}}, false},
		{[]api.Step{{S: 8, In: 0, Out: 1}, {S: -1, In: 0, Out: 1}}, false},
		{[]api.Step{{S: 8, In: 0, Out: 1}, {S: -1}}, false},
		// Not from there on: turned about, another port of the same section, the other way about, behind the end of the track.
		{short(101, 110), false},
		{short(101, 210), false},
		{short(101, 223), false},
		{short(101, 601), false},
		{short(301, 201), false},
		{short(1, 1), false},
		{short(801, 1), false},
		{short(801, 510), false},
		{short(1, 101, 301), false},
	} {
		if got := route.Goes(l, x.row...); got != x.want {
			t.Errorf("row %d: Goes is %v", i, got)
		}
	}
}

// Steps that are there go by what Join tells, in layouts that do not hang together, too.
func TestGoesWhereLayoutsDoNotHangTogether(t *testing.T) {
	l := api.Layout{Sections: apart(1, 3).Sections}
	l.Sections[0].Join[1] = api.Port{S: 1, P: 1}
	l.Sections[1].Join[0] = api.Port{S: 1, P: 0}
	l.Sections[2].Join[1] = api.Port{S: 3, P: 0}
	if !route.Goes(l, short(1, 110, 101)...) || route.Goes(l, short(110, 10)...) || route.Goes(l, short(201, 301)...) {
		t.Error("they go by what Join tells alone")
	}
	long := odds()[2]
	var round []api.Step
	for n := range 100 {
		round = append(round, api.Step{S: n % 40, In: 0, Out: 1})
	}
	if !route.Goes(long, round...) {
		t.Error("sections from MaxSections on are gone through, too")
	}
	for i, l := range odds() {
		for _, a := range append(steps(l), short(112)...) {
			for _, b := range append(steps(l), api.Step{S: -1}) {
				if got := route.Goes(l, a, b); got != follow(l, []api.Step{a, b}) {
					t.Errorf("layout %d: Goes(%v, %v) is %v", i, a, b, got)
				}
			}
		}
	}
}

// All rows of up to four sections of three, by all lists of up to four of these, one less and one more.
func TestThrough(t *testing.T) {
	seen := map[bool]int{}
	for _, row := range viaLists(4, 2) {
		p := api.Path{}
		for n, s := range row {
			p.Steps = append(p.Steps, api.Step{S: s, In: 7 - n, Out: n})
		}
		for _, vias := range viaLists(4, 2) {
			want := by(row, vias)
			seen[want]++
			if got := route.Through(p, vias...); got != want {
				t.Errorf("Through(%v, %v) is %v", row, vias, got)
			}
		}
	}
	if seen[true] < 1000 || seen[false] < 1000 {
		t.Errorf("too few: %v", seen)
	}
}

// By sections alone: whatever the signal, the exit, the ports; of no layout; how many there may be at most is not asked.
func TestThroughByHand(t *testing.T) {
	p := api.Path{Signal: -4, Exit: math.MaxInt, Steps: []api.Step{{S: 3}, {S: math.MinInt, In: 9}, {S: 3, Out: -9}, {S: math.MaxInt}, {S: 1 << 32}}}
	for i, x := range []struct {
		vias []int
		want bool
	}{
		{nil, true}, {[]int{}, true}, {[]int{3, 3}, true}, {[]int{3, math.MinInt, 3, math.MaxInt, 1 << 32}, true}, {[]int{math.MinInt, math.MaxInt}, true},
		{[]int{3, 3, 3}, false}, {[]int{math.MaxInt, 3}, false}, {[]int{0}, false}, {[]int{3, math.MinInt, 3, math.MaxInt, 1 << 32, 3}, false}, {[]int{-9}, false}, {[]int{math.MinInt, math.MinInt}, false},
	} {
		if got := route.Through(p, x.vias...); got != x.want {
			t.Errorf("vias %d: Through is %v", i, got)
		}
	}
	if !route.Through(api.Path{}) || route.Through(api.Path{}, 0) || route.Through(api.Path{Signal: 1, Exit: 1}, 1) {
		t.Error("a path of no steps goes through nothing")
	}
}

func TestOwnAndSame(t *testing.T) {
	all := []api.Path{{}, {Signal: math.MinInt, Exit: math.MaxInt}, {Signal: 5, Exit: 0, Steps: short(102, 601, 510, 801)}, {Signal: -1, Steps: []api.Step{{S: math.MinInt, In: math.MaxInt, Out: -1}}}}
	for i, a := range all {
		own := route.Own(a)
		if own.Signal != a.Signal || own.Exit != a.Exit || !slices.Equal(own.Steps, a.Steps) {
			t.Errorf("Own of %v is %v", a, own)
		}
		for j, b := range all {
			if got := route.Same(own, b); got != (i == j) {
				t.Errorf("Same(%v, %v) is %v", own, b, got)
			}
		}
		for j, place := range places(&own) {
			for _, n := range numbers() {
				was := *place
				*place = n
				if route.Same(a, own) != (n == was) || route.Same(own, a) != (n == was) {
					t.Errorf("path %d, number %d: %d is the same as %d", i, j, n, was)
				}
				*place = was
			}
		}
	}
	a := all[2]
	for n := range a.Steps {
		b := a
		if b.Steps = a.Steps[:n]; route.Same(a, b) || route.Same(b, a) {
			t.Errorf("the first %d steps are the same as all", n)
		}
	}
	if !route.Same(api.Path{Steps: []api.Step{}}, api.Path{}) || !route.Same(api.Path{}, route.Own(api.Path{Steps: make([]api.Step, 0, 9)})) {
		t.Error("no steps are no steps")
	}
}

// places are where all numbers of a path stand.
func places(p *api.Path) []*int {
	all := []*int{&p.Signal, &p.Exit}
	for n := range p.Steps {
		all = append(all, &p.Steps[n].S, &p.Steps[n].In, &p.Steps[n].Out)
	}
	return all
}

// P11.3

func TestWithViasLeftOutItStaysOne(t *testing.T) {
	seen := 0
	for i, l := range whole(t) {
		for _, p := range sample(made(l), 10) {
			for _, vias := range viaLists(mostVias, len(l.Sections)) {
				if !route.Is(l, p, vias...) {
					continue
				}
				for n := range vias {
					seen++
					if !route.Is(l, p, slices.Delete(slices.Clone(vias), n, n+1)...) {
						t.Errorf("layout %d: %v is one by %v, not with number %d left out", i, p, vias, n)
					}
				}
			}
		}
	}
	if seen < 1000 {
		t.Errorf("only %d vias", seen)
	}
}

func TestTurnedAboutAndBetweenItGoes(t *testing.T) {
	seen := 0
	for i, l := range whole(t) {
		for _, p := range sample(made(l), 40) {
			if !route.Goes(l, turned(p.Steps)...) {
				t.Errorf("layout %d: %v does not go, turned about", i, p)
			}
			for a := range p.Steps {
				for b := a; b <= len(p.Steps); b++ {
					seen++
					if !route.Goes(l, p.Steps[a:b]...) {
						t.Errorf("layout %d: %v does not go from %d to %d", i, p, a, b)
					}
				}
			}
		}
	}
	if seen < 5000 {
		t.Errorf("only %d parts", seen)
	}
}

func TestTwoOfOneSignalPartBehindAPoint(t *testing.T) {
	seen := 0
	for i, l := range whole(t) {
		all := sample(made(l), 40)
		for _, a := range all {
			for _, b := range all {
				if !route.Is(l, a) || !route.Is(l, b) {
					t.Fatalf("layout %d: %v, or %v, is none", i, a, b)
				}
				n := 0
				for n < len(a.Steps) && n < len(b.Steps) && a.Steps[n] == b.Steps[n] {
					n++
				}
				if a.Signal != b.Signal || n == len(a.Steps) || n == len(b.Steps) {
					continue
				}
				seen++
				x, y := a.Steps[n], b.Steps[n]
				if x.S != y.S || l.Sections[x.S].Kind != 2 || x.In != 0 || y.In != 0 {
					t.Errorf("layout %d: %v and %v part by %v and %v", i, a, b, x, y)
				}
			}
		}
	}
	if seen < 500 {
		t.Errorf("only %d part", seen)
	}
}

// R1 to R4 (R1's wrong numbers: all of the above; R2: TestErrArg)

func TestLongListsEnd(t *testing.T) {
	const many = 200000
	long := apart(2, many)
	for n := range many {
		tie(&long, api.Port{S: n, P: 1}, api.Port{S: (n + 1) % many, P: 0})
	}
	long.Signals, long.Exits, long.Flanks = make([]api.Signal, many), make([]api.Exit, many), make([]api.Flank, many)
	p, vias := api.Path{}, []int{}
	for n := range 2 * many {
		p.Steps = append(p.Steps, api.Step{S: n % many, In: 0, Out: 1})
		vias = append(vias, n%many)
	}
	wantCheck(t, "a long layout", long, p, vias, api.ErrArg)
	wantCheck(t, "long vias", yard(), p, vias, api.ErrArg)
	wantCheck(t, "a long path", yard(), p, vias[:2], api.ErrRoute)
	round := api.Path{Signal: 3, Exit: 3}
	for range many {
		round.Steps = append(round.Steps, short(901, 1001)...)
	}
	wantCheck(t, "round and round", yard(), round, []int{9}, api.ErrRoute)
	if !route.Goes(long, p.Steps...) || route.Goes(yard(), p.Steps...) || !route.Goes(yard(), round.Steps...) {
		t.Error("long rows go by what lies beyond")
	}
	if !route.Through(p, vias...) || route.Through(p, append(vias, 0)...) || route.Through(api.Path{}, vias...) {
		t.Error("long rows go through their vias")
	}
	own := route.Own(p)
	if !route.Same(own, p) || len(own.Steps) != 2*many {
		t.Error("a long path is not its own")
	}
	own.Steps[2*many-1].Out = 2
	if route.Same(own, p) {
		t.Error("another long path is the same")
	}
}

func TestWildNumbers(t *testing.T) {
	l := yard()
	for _, n := range numbers() {
		for _, m := range numbers() {
			s := api.Step{S: n, In: m, Out: 1}
			is := n >= 0 && n < 11 && m == 0
			if route.Goes(l, s) != is {
				t.Errorf("Goes(%v) is %v", s, !is)
			}
			want := api.ErrRoute
			if n == 9 && m == 0 {
				want = api.OK
			}
			wantCheck(t, "wild", l, api.Path{Signal: 3, Exit: 3, Steps: []api.Step{s}}, nil, want)
		}
	}
}

// tell is what all calls tell of a layout, of a path, by vias, as text.
func tell(l api.Layout, p api.Path, vias ...int) string {
	return fmt.Sprintln(route.Check(l, p, vias...), route.Is(l, p, vias...), route.Goes(l, p.Steps...), route.Through(p, vias...), route.Own(p), route.Same(p, p), route.Same(p, api.Path{}))
}

func TestAnswersHangOnTheirArgumentsAlone(t *testing.T) {
	p, none := api.Path{Signal: 5, Exit: 0, Steps: short(102, 601, 510, 801)}, api.Path{Signal: 0, Exit: 2, Steps: short(1, 101, 201, 301)}
	was := tell(yard(), p, 6, 5) + tell(yard(), none, 1)
	others := append(sample(made(yard()), 9), p, none, api.Path{})
	for i, l := range append(whole(t), odds()...) {
		for _, q := range others {
			tell(l, q, i%11)
		}
		if now := tell(yard(), p, 6, 5) + tell(yard(), none, 1); now != was {
			t.Fatalf("behind calls by layout %d: %s, then %s", i, was, now)
		}
	}
}

// roomy is a list in memory of its own, with spare room behind it.
func roomy[T any](all []T) []T {
	return append(slices.Clip(slices.Clone(all)), make([]T, 20)...)[:len(all)]
}

// wide is a list as long as there is room.
func wide[T any](all []T) []T { return all[:cap(all)] }

// What was handed in stays, its spare room, too.
func TestArgumentsStay(t *testing.T) {
	for i, l := range append(whole(t), odds()...) {
		l = layout.Own(l)
		l.Sections, l.Signals, l.Exits = roomy(l.Sections), roomy(l.Signals), roomy(l.Exits)
		for n := range l.Exits {
			l.Exits[n].Over = roomy(l.Exits[n].Over)
		}
		big := l
		big.Sections, big.Signals, big.Exits = wide(l.Sections), wide(l.Signals), slices.Clone(wide(l.Exits))
		for n := range big.Exits {
			big.Exits[n].Over = wide(big.Exits[n].Over)
		}
		was := layout.Own(big)
		paths := []api.Path{{Signal: 5, Exit: 0, Steps: short(102, 601, 510, 801)}}
		if topo.Right(l) {
			paths = append(paths, sample(made(l), 3)...)
		}
		for _, p := range paths {
			p.Steps = roomy(p.Steps)
			vias := roomy(sections(p)[:1])
			before, asked := slices.Clone(wide(p.Steps)), slices.Clone(wide(vias))
			tell(l, p, vias...)
			spoil := wide(route.Own(p).Steps)
			for n := range spoil {
				spoil[n] = api.Step{S: 77, In: 7, Out: 7}
			}
			if !slices.Equal(wide(p.Steps), before) || !slices.Equal(wide(vias), asked) {
				t.Errorf("layout %d: a path, or vias, that were handed in have changed", i)
			}
		}
		if !layout.Same(big, was) {
			t.Errorf("layout %d, which was handed in, has changed", i)
		}
	}
}

// Neither what was handed in nor another answer changes with an answer.
func TestAnswersShareNothing(t *testing.T) {
	p := api.Path{Signal: 5, Exit: 0, Steps: roomy(short(102, 601, 510, 801))}
	was := slices.Clone(wide(p.Steps))
	a, b := route.Own(p), route.Own(p)
	for n := range wide(a.Steps) {
		wide(a.Steps)[n] = api.Step{S: 77, In: 7, Out: 7}
	}
	if !slices.Equal(wide(p.Steps), was) || !slices.Equal(b.Steps, was[:4]) {
		t.Error("an answer shares memory with what was handed in, or with another answer")
	}
	p.Steps[1] = api.Step{S: 66}
	if !slices.Equal(b.Steps, was[:4]) {
		t.Error("what was handed in is kept")
	}
}
