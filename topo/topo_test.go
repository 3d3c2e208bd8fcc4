package topo_test

import (
	"math"
	"slices"
	"strconv"
	"testing"

	"lockbar/api"
	"lockbar/join"
	"lockbar/layout"
	"lockbar/port"
	"lockbar/topo"
)

// The limits are written out here, so that a wrong one would be seen.
const (
	mostSections = 24
	mostSignals  = 12
	mostExits    = 12
	mostFlanks   = 16
)

// end is where the track ends.
func end() api.Port { return api.Port{S: -1, P: 0} }

// goings are the ends of a kind's ways, by the way's number, as chapter 5 writes them out.
func goings(kind uint8) [][2]int {
	switch kind {
	case 1:
		return [][2]int{{0, 1}}
	case 2:
		return [][2]int{{0, 1}, {0, 2}}
	case 3:
		return [][2]int{{0, 1}, {2, 3}}
	}
	return nil
}

// apart are so many sections of that kind that join to nothing, and all times at their least.
func apart(kind uint8, sections int) api.Layout {
	l := api.Layout{Times: api.Times{Clear: 1, Drive: 1, Stale: 1, Approach: 1, Over: 1, Press: 1, Link: 1}}
	for range sections {
		l.Sections = append(l.Sections, api.Section{Kind: kind, Join: [4]api.Port{end(), end(), end(), end()}})
	}
	return l
}

// tie joins two ports, both ways about.
func tie(l *api.Layout, a, b api.Port) {
	l.Sections[a.S].Join[a.P] = b
	l.Sections[b.S].Join[b.P] = a
}

// yard is a layout that hangs together: plain sections 0, 3, 4, 6, 9, points 1 and 5, a crossing 2; 7 and 8 are joined at both ends, and apart from the others; 9 is alone. At 0's port 0 there are a signal and an exit. Overlaps have no, one, two steps, one of them in the ring of 7 and 8. No two flanks are alike, but some of them differ by one number alone.
func yard() api.Layout {
	l := apart(1, 10)
	l.Sections[1].Kind, l.Sections[5].Kind, l.Sections[2].Kind = 2, 2, 3
	for _, x := range [][2]api.Port{
		{{S: 0, P: 1}, {S: 1, P: 0}}, {{S: 1, P: 1}, {S: 2, P: 0}}, {{S: 1, P: 2}, {S: 6, P: 0}}, {{S: 2, P: 1}, {S: 3, P: 0}},
		{{S: 2, P: 2}, {S: 4, P: 1}}, {{S: 2, P: 3}, {S: 5, P: 2}}, {{S: 5, P: 1}, {S: 6, P: 1}},
		{{S: 7, P: 0}, {S: 8, P: 1}}, {{S: 7, P: 1}, {S: 8, P: 0}},
	} {
		tie(&l, x[0], x[1])
	}
	l.Signals = []api.Signal{{At: api.Port{S: 0, P: 0}}, {At: api.Port{S: 4, P: 0}}, {At: api.Port{S: 5, P: 0}}, {At: api.Port{S: 0, P: 1}}}
	l.Exits = []api.Exit{
		{At: api.Port{S: 3, P: 1}},
		{At: api.Port{S: 1, P: 1}, Over: []api.Step{{S: 2, In: 0, Out: 1}}},
		{At: api.Port{S: 1, P: 2}, Over: []api.Step{{S: 6, In: 0, Out: 1}, {S: 5, In: 1, Out: 0}}},
		{At: api.Port{S: 0, P: 0}},
		{At: api.Port{S: 7, P: 1}, Over: []api.Step{{S: 8, In: 0, Out: 1}}},
		{At: api.Port{S: 5, P: 2}, Over: []api.Step{{S: 2, In: 3, Out: 2}, {S: 4, In: 1, Out: 0}}},
	}
	l.Flanks = []api.Flank{{S: 1, Way: 1, Point: 5, Pos: 0}, {S: 1, Way: 0, Point: 5, Pos: 0}, {S: 2, Way: 1, Point: 5, Pos: 0}, {S: 2, Way: 1, Point: 1, Pos: 1}, {S: 0, Way: 0, Point: 1, Pos: 0}}
	return l
}

// fullest is a layout that hangs together, and has of all as many as may be: a ring of points, from the normal end of each to the toe of the next.
func fullest() api.Layout {
	l := apart(2, mostSections)
	for n := range mostSections {
		tie(&l, api.Port{S: n, P: 1}, api.Port{S: (n + 1) % mostSections, P: 0})
	}
	for n := range mostSignals {
		l.Signals = append(l.Signals, api.Signal{At: api.Port{S: 2 * n, P: 0}})
	}
	for n := range mostExits {
		s := 2*n + 1
		next, last := (s+1)%mostSections, (s+2)%mostSections
		l.Exits = append(l.Exits, api.Exit{At: api.Port{S: s, P: 1}, Over: []api.Step{{S: next, In: 0, Out: 1}, {S: last, In: 0, Out: 2}}})
	}
	for n := range mostFlanks {
		l.Flanks = append(l.Flanks, api.Flank{S: n, Way: n % 2, Point: 23 - n, Pos: n / 2 % 2})
	}
	return l
}

// changed is a yard with something done to it.
func changed(change func(l *api.Layout)) api.Layout {
	l := yard()
	change(&l)
	return l
}

// roller gives numbers from 0 to below n by a rule of its own, so that they are the same each time.
func roller(seed uint32) func(n int) int {
	return func(n int) int {
		seed = seed*1664525 + 1013904223
		return int(seed>>16) % n
	}
}

// mixed is a layout by numbers that may be: some sections of all kinds, mostly joined both ways about, and of all else some that is mostly right.
func mixed(seed uint32) api.Layout {
	roll := roller(seed)
	l := apart(1, 2+roll(9))
	var all, points []api.Port
	for s := range l.Sections {
		kind := uint8(1 + roll(3))
		l.Sections[s].Kind = kind
		for p := range kind + 1 {
			all = append(all, api.Port{S: s, P: int(p)})
		}
		if kind == 2 {
			points = append(points, api.Port{S: s})
		}
	}
	for range 2 * len(all) {
		a, b := all[roll(len(all))], all[roll(len(all))]
		if a.S != b.S && l.Sections[a.S].Join[a.P] == end() && l.Sections[b.S].Join[b.P] == end() {
			tie(&l, a, b)
		}
	}
	if a := all[roll(len(all))]; roll(4) == 0 {
		l.Sections[a.S].Join[a.P] = all[roll(len(all))]
	}
	for range roll(4) {
		l.Signals = append(l.Signals, api.Signal{At: all[roll(len(all))]})
	}
	for range roll(4) {
		l.Exits = append(l.Exits, mixedExit(l, all[roll(len(all))], roll))
	}
	for range roll(5) * len(points) {
		if f := (api.Flank{S: roll(len(l.Sections)), Point: points[roll(len(points))].S, Pos: roll(2)}); f.S != f.Point {
			f.Way = roll(len(goings(l.Sections[f.S].Kind)))
			l.Flanks = append(l.Flanks[:min(len(l.Flanks), mostFlanks-1)], f)
		}
	}
	return l
}

// mixedExit is an exit at a port, with steps by what lies beyond, or now and then by something else.
func mixedExit(l api.Layout, at api.Port, roll func(n int) int) api.Exit {
	x := api.Exit{At: at}
	for range roll(3) {
		q := l.Sections[at.S].Join[at.P]
		if q == end() || roll(8) == 0 {
			q = api.Port{S: roll(len(l.Sections))}
		}
		ways := goings(l.Sections[q.S].Kind)
		s := api.Step{S: q.S, In: ways[0][0], Out: ways[0][1]}
		for _, w := range ways {
			for _, e := range [][2]int{w, {w[1], w[0]}} {
				if e[0] == q.P {
					s.In, s.Out = e[0], e[1]
				}
			}
		}
		x.Over, at = append(x.Over, s), api.Port{S: s.S, P: s.Out}
	}
	return x
}

// mixeds are a great many of them.
func mixeds() []api.Layout {
	var all []api.Layout
	for seed := range uint32(6000) {
		all = append(all, mixed(seed))
	}
	return all
}

// places are where all numbers of a layout stand, but the kinds of sections.
func places(l *api.Layout) []*int {
	var all []*int
	for n := range l.Sections {
		s := &l.Sections[n]
		for i := range s.Join {
			all = append(all, &s.Join[i].S, &s.Join[i].P)
		}
		all = append(all, &s.Class[0], &s.Class[1])
	}
	for n := range l.Signals {
		all = append(all, &l.Signals[n].At.S, &l.Signals[n].At.P)
	}
	for n := range l.Exits {
		all = append(all, &l.Exits[n].At.S, &l.Exits[n].At.P)
		for i := range l.Exits[n].Over {
			s := &l.Exits[n].Over[i]
			all = append(all, &s.S, &s.In, &s.Out)
		}
	}
	for n := range l.Flanks {
		f := &l.Flanks[n]
		all = append(all, &f.S, &f.Way, &f.Point, &f.Pos)
	}
	t := &l.Times
	return append(all, &t.Clear, &t.Drive, &t.Stale, &t.Approach, &t.Over, &t.Press, &t.Link)
}

// The reference: the chapter's words, by other means than the package's.

// on are the steps on from a port, by what its section's Join tells.
func on(l api.Layout, p api.Port) []api.Step {
	q := l.Sections[p.S].Join[p.P]
	if q == end() {
		return nil
	}
	var all []api.Step
	for _, e := range goings(l.Sections[q.S].Kind) {
		if e[0] == q.P {
			all = append(all, api.Step{S: q.S, In: e[0], Out: e[1]})
		}
		if e[1] == q.P {
			all = append(all, api.Step{S: q.S, In: e[1], Out: e[0]})
		}
	}
	return all
}

// overs are all overlaps that an exit at that port could have.
func overs(l api.Layout, at api.Port) [][]api.Step {
	all := [][]api.Step{nil}
	for _, first := range on(l, at) {
		if first.S == at.S {
			continue
		}
		all = append(all, []api.Step{first})
		for _, next := range on(l, api.Port{S: first.S, P: first.Out}) {
			if next.S != at.S && next.S != first.S {
				all = append(all, []api.Step{first, next})
			}
		}
	}
	return all
}

// isOver tells whether an exit's overlap is one of those that it could have.
func isOver(l api.Layout, x api.Exit) bool {
	return slices.ContainsFunc(overs(l, x.At), func(o []api.Step) bool { return slices.Equal(o, x.Over) })
}

// isJoined tells whether the sections of a layout whose numbers may be are joined.
func isJoined(l api.Layout) bool {
	is := true
	for s, x := range l.Sections {
		for n, q := range x.Join {
			is = is && (q == end() || q.S != s && l.Sections[q.S].Join[q.P] == api.Port{S: s, P: n})
		}
	}
	return is
}

// fault is a rule that is broken, and by what.
type fault struct{ rule, at int }

// faults are all of a layout whose numbers may be, in no order that the reference hangs on.
func faults(l api.Layout) []fault {
	var all []fault
	flanks, exits, signals := map[[3]int]int{}, map[api.Port]int{}, map[api.Port]int{}
	for n, f := range l.Flanks {
		key := [3]int{f.S, f.Way, f.Point}
		if flanks[key]++; flanks[key] > 1 {
			all = append(all, fault{5, n})
		}
	}
	for n, x := range l.Exits {
		if !isOver(l, x) {
			all = append(all, fault{4, n})
		}
		if exits[x.At]++; exits[x.At] > 1 {
			all = append(all, fault{3, n})
		}
	}
	for n, s := range l.Signals {
		if signals[s.At]++; signals[s.At] > 1 {
			all = append(all, fault{2, n})
		}
	}
	if !isJoined(l) {
		all = append(all, fault{1, 0})
	}
	return all
}

// first is the one of them that is told: of the first rule the least number; 0, 0, if there is none.
func first(all []fault) fault {
	if len(all) == 0 {
		return fault{}
	}
	return slices.MinFunc(all, func(a, b fault) int { return (a.rule-b.rule)*1000 + a.at - b.at })
}

// found is what Check is to answer.
func found(l api.Layout) (fault, api.Errno) {
	if !layout.Right(l) {
		return fault{}, 60
	}
	if f := first(faults(l)); f.rule > 0 {
		return f, 90
	}
	return fault{}, 0
}

// wantCheck holds what Check and Right answer against what is wanted.
func wantCheck(t *testing.T, what string, l api.Layout, want fault, e api.Errno) {
	t.Helper()
	rule, at, got := topo.Check(l)
	if rule != want.rule || at != want.at || got != e {
		t.Errorf("%s: Check is %d, %d, %d, want %d, %d, %d", what, rule, at, got, want.rule, want.at, e)
	}
	if right := topo.Right(l); right != (e == 0) {
		t.Errorf("%s: Right is %v", what, right)
	}
}

// wantAll holds what all calls answer against the reference.
func wantAll(t *testing.T, what string, l api.Layout) {
	t.Helper()
	want, e := found(l)
	wantCheck(t, what, l, want, e)
	for n := -1; n <= len(l.Exits); n++ {
		is := e != 60 && n >= 0 && n < len(l.Exits) && isOver(l, l.Exits[n])
		if got := topo.Over(l, n); got != is {
			t.Errorf("%s: Over of %d is %v", what, n, got)
		}
	}
}

// P9.1

func TestLimitsAreThoseOfTheApi(t *testing.T) {
	if api.MaxSections != mostSections || api.MaxSignals != mostSignals || api.MaxExits != mostExits || api.MaxFlanks != mostFlanks || api.MaxOver != 2 {
		t.Error("another limit")
	}
	if api.ErrLayout != 60 || api.ErrTopo != 90 {
		t.Error("another error")
	}
}

func TestExamples(t *testing.T) {
	l := apart(1, 1)
	wantCheck(t, "one plain section", l, fault{}, api.OK)
	l.Signals = make([]api.Signal, 2)
	wantCheck(t, "with two signals at its port 0", l, fault{2, 1}, api.ErrTopo)
}

func TestWhatHangsTogether(t *testing.T) {
	wantCheck(t, "yard", yard(), fault{}, api.OK)
	wantCheck(t, "fullest", fullest(), fault{}, api.OK)
	wantCheck(t, "no sections", apart(1, 0), fault{}, api.OK)
	for kind := uint8(1); kind < 4; kind++ {
		wantCheck(t, "apart", apart(kind, mostSections), fault{}, api.OK)
	}
}

func TestNumbersThatMayNotBe(t *testing.T) {
	wantCheck(t, "nothing, not even times", api.Layout{}, fault{}, api.ErrLayout)
	wantCheck(t, "too many sections", apart(1, mostSections+1), fault{}, api.ErrLayout)
	for i, change := range []func(l *api.Layout){
		func(l *api.Layout) { l.Times.Link = 0 },
		func(l *api.Layout) { l.Times.Clear = 1001 },
		func(l *api.Layout) { l.Sections[9].Kind = 0 },
		func(l *api.Layout) { l.Sections[9].Join[0] = api.Port{S: 10, P: 0} },
		func(l *api.Layout) { l.Sections[9].Join[0] = api.Port{S: 0, P: 2} },
		func(l *api.Layout) { l.Signals[3].At = end() },
		func(l *api.Layout) { l.Signals = make([]api.Signal, mostSignals+1) },
		func(l *api.Layout) { l.Exits[0].At = api.Port{S: 3, P: 2} },
		func(l *api.Layout) { l.Exits[1].Over = []api.Step{{S: 2, In: 0, Out: 2}} },
		func(l *api.Layout) { l.Exits[0].Over = make([]api.Step, 3) },
		func(l *api.Layout) { l.Flanks[0].Point = 0 },
		func(l *api.Layout) { l.Flanks[0].Pos = 2 },
		func(l *api.Layout) { l.Flanks = make([]api.Flank, mostFlanks+1) },
	} {
		// Ahead of all rules: the same with each of them broken.
		wantCheck(t, "number "+strconv.Itoa(i), changed(change), fault{}, api.ErrLayout)
		l := broken(1, 2, 3, 4, 5)
		change(&l)
		wantCheck(t, "number "+strconv.Itoa(i)+", and all rules", l, fault{}, api.ErrLayout)
	}
}

func TestRule1(t *testing.T) {
	for i, change := range []func(l *api.Layout){
		func(l *api.Layout) { l.Sections[0].Join[1] = end() },
		func(l *api.Layout) { l.Sections[9].Join[0] = api.Port{S: 0, P: 0} },
		func(l *api.Layout) { l.Sections[9].Join[0] = api.Port{S: 0, P: 1} },
		func(l *api.Layout) { l.Sections[0].Join[1] = api.Port{S: 1, P: 1} },
		func(l *api.Layout) { l.Sections[9].Join[1] = api.Port{S: 9, P: 1} },
		func(l *api.Layout) { tie(l, api.Port{S: 9, P: 0}, api.Port{S: 9, P: 1}) },
		func(l *api.Layout) { tie(l, api.Port{S: 9, P: 0}, api.Port{S: 9, P: 0}) },
	} {
		wantCheck(t, "join "+strconv.Itoa(i), changed(change), fault{1, 0}, api.ErrTopo)
	}
}

// Each of two or three signals, and exits, at one port, wherever they stand in the row, and all of them.
func TestRules2And3(t *testing.T) {
	for b := range mostSignals {
		for a := range b {
			l, x := fullest(), fullest()
			l.Signals[b], x.Exits[b] = l.Signals[a], x.Exits[a]
			name := strconv.Itoa(a) + " and " + strconv.Itoa(b)
			wantCheck(t, "signals "+name, l, fault{2, b}, api.ErrTopo)
			wantCheck(t, "exits "+name, x, fault{3, b}, api.ErrTopo)
			for c := range b {
				if c != a {
					l.Signals[c], x.Exits[c] = l.Signals[a], x.Exits[a]
					name, second := name+" and "+strconv.Itoa(c), max(a, c)
					wantCheck(t, "signals "+name, l, fault{2, second}, api.ErrTopo)
					wantCheck(t, "exits "+name, x, fault{3, second}, api.ErrTopo)
					l.Signals[c], x.Exits[c] = fullest().Signals[c], fullest().Exits[c]
				}
			}
		}
	}
	l := fullest()
	for n := range l.Signals {
		l.Signals[n] = l.Signals[0]
	}
	wantCheck(t, "all signals at one port", l, fault{2, 1}, api.ErrTopo)
}

// Two pairs that cross: the one that is told is that whose second one is the least, not that whose first one is.
func TestTheLeastSecondOne(t *testing.T) {
	l := fullest()
	l.Signals[11], l.Signals[5] = l.Signals[0], l.Signals[4]
	wantCheck(t, "signals", l, fault{2, 5}, api.ErrTopo)
	l = fullest()
	l.Exits[11], l.Exits[5] = l.Exits[0], l.Exits[4]
	wantCheck(t, "exits", l, fault{3, 5}, api.ErrTopo)
	l = fullest()
	l.Flanks[15], l.Flanks[5] = l.Flanks[0], l.Flanks[4]
	wantCheck(t, "flanks", l, fault{5, 5}, api.ErrTopo)
}

// Exits are at one port whatever their overlaps, and a signal and an exit may be at one.
func TestRule3GoesByPortsAlone(t *testing.T) {
	l := yard()
	l.Exits = append(l.Exits, api.Exit{At: l.Exits[2].At})
	wantCheck(t, "another overlap", l, fault{3, 6}, api.ErrTopo)
	l = fullest()
	for n := range l.Signals {
		l.Signals[n].At = l.Exits[n].At
	}
	wantCheck(t, "a signal at each exit", l, fault{}, api.OK)
}

// Of ports that have one number in common each is another one.
func TestRules2And3GoByBothNumbers(t *testing.T) {
	l := apart(3, 3)
	for s := range l.Sections {
		for p := range 4 {
			l.Signals = append(l.Signals, api.Signal{At: api.Port{S: s, P: p}})
			l.Exits = append(l.Exits, api.Exit{At: api.Port{S: s, P: p}})
		}
	}
	wantCheck(t, "a signal and an exit at each port", l, fault{}, api.OK)
}

func TestRule4(t *testing.T) {
	for n := range mostExits {
		l := fullest()
		l.Exits[n].Over[1].S = (l.Exits[n].Over[1].S + 1) % mostSections
		wantCheck(t, "exit "+strconv.Itoa(n), l, fault{4, n}, api.ErrTopo)
		l.Exits[0].Over[0] = api.Step{S: 2, In: 1, Out: 0}
		wantCheck(t, "exits 0 and "+strconv.Itoa(n), l, fault{4, 0}, api.ErrTopo)
	}
}

// Each two flanks of one S, Way, Point, be Pos the same or another one; and such as differ by one of these.
func TestRule5(t *testing.T) {
	for b := range mostFlanks {
		for a := range b {
			l := fullest()
			l.Flanks[b] = l.Flanks[a]
			name := strconv.Itoa(a) + " and " + strconv.Itoa(b)
			wantCheck(t, name, l, fault{5, b}, api.ErrTopo)
			l.Flanks[b].Pos = 1 - l.Flanks[b].Pos
			wantCheck(t, name+", another Pos", l, fault{5, b}, api.ErrTopo)
			l.Flanks[b].Way = 1 - l.Flanks[b].Way
			want, e := found(l)
			wantCheck(t, name+", another Way", l, want, e)
		}
	}
	l := apart(2, 4)
	for s := range 4 {
		for point := range 4 {
			if s != point && len(l.Flanks) < mostFlanks-1 {
				l.Flanks = append(l.Flanks, api.Flank{S: s, Way: 0, Point: point}, api.Flank{S: s, Way: 1, Point: point})
			}
		}
	}
	wantCheck(t, "flanks that differ", l, fault{}, api.OK)
}

// broken is a yard with those rules broken, each by what stands last.
func broken(rules ...int) api.Layout {
	l := yard()
	// What is added by one rule breaks none of the others, in whatever order they come.
	for _, r := range rules {
		switch r {
		case 1:
			l.Sections[9].Join[0] = api.Port{S: 9, P: 1}
		case 2:
			l.Signals = append(l.Signals, l.Signals[0])
		case 3:
			l.Exits = append(l.Exits, yard().Exits[0])
		case 4:
			l.Exits = append(l.Exits, api.Exit{At: api.Port{S: 4, P: 0}, Over: []api.Step{{S: 2, In: 2, Out: 3}}})
		case 5:
			l.Flanks = append(l.Flanks, l.Flanks[0])
		}
	}
	return l
}

// All sets of rules that are broken at once: the first one is told.
func TestTheFirstRule(t *testing.T) {
	for set := range 32 {
		var rules []int
		for r := 1; r <= 5; r++ {
			if set>>(r-1)&1 == 1 {
				rules = append(rules, r)
			}
		}
		want, e := fault{}, api.OK
		if len(rules) > 0 {
			e = api.ErrTopo
			want = fault{rules[0], [...]int{0, 0, 4, 6, 6, 5}[rules[0]]}
		}
		wantCheck(t, "rules "+strconv.Itoa(set), broken(rules...), want, e)
		slices.Reverse(rules)
		// What rule 4's exit stands behind hangs on the order; the rule does not.
		if rule, _, got := topo.Check(broken(rules...)); rule != want.rule || got != e {
			t.Errorf("rules %d, turned: %d, %d", set, rule, got)
		}
	}
}

// The number of what breaks a rule hangs on that rule alone: a later rule broken by a lesser number is not told.
func TestTheFirstRuleGoesAheadOfTheLeastNumber(t *testing.T) {
	l := fullest()
	l.Signals[11] = l.Signals[10]
	l.Exits[1].At = l.Exits[0].At
	l.Flanks[1] = l.Flanks[0]
	wantCheck(t, "signals", l, fault{2, 11}, api.ErrTopo)
	l.Signals[11] = fullest().Signals[11]
	wantCheck(t, "exits", l, fault{3, 1}, api.ErrTopo)
	l.Exits[1].At = fullest().Exits[1].At
	l.Exits[11].Over[0] = l.Exits[10].Over[0]
	wantCheck(t, "overlaps", l, fault{4, 11}, api.ErrTopo)
	l.Exits[11].Over[0] = fullest().Exits[11].Over[0]
	wantCheck(t, "flanks", l, fault{5, 1}, api.ErrTopo)
}

func TestByOneNumber(t *testing.T) {
	numbers := []int{math.MinInt, -2, -1, 0, 1, 2, 3, 4, 5, 6, 7, 8, 9, 10, 22, 23, 24, 1000, 1001, 1 << 32, math.MaxInt}
	for name, lay := range map[string]func() api.Layout{"yard": yard, "fullest": fullest} {
		all := lay()
		for i := range places(&all) {
			for _, n := range numbers {
				l := lay()
				*places(&l)[i] = n
				wantAll(t, name+", number "+strconv.Itoa(i)+" is "+strconv.Itoa(n), l)
			}
		}
		for s := range all.Sections {
			for kind := range uint8(5) {
				l := lay()
				l.Sections[s].Kind = kind
				wantAll(t, name+", kind of "+strconv.Itoa(s)+" is "+strconv.Itoa(int(kind)), l)
			}
		}
	}
}

// Layouts mixed by a rule, so that there are many of each rule, and such as break several.
func TestMixed(t *testing.T) {
	told, severally, behind := [6]int{}, 0, 0
	for i, l := range mixeds() {
		if !layout.Right(l) {
			t.Fatalf("mixed %d: its numbers may not be", i)
		}
		wantAll(t, "mixed "+strconv.Itoa(i), l)
		all := faults(l)
		told[first(all).rule]++
		if len(all) > 1 {
			severally++
		}
		if first(all).at > 1 {
			behind++
		}
	}
	if slices.Min(told[:]) < 100 || severally < 500 || behind < 100 {
		t.Errorf("too few of some: by rules %v, of several %d, not by the first two %d", told, severally, behind)
	}
}

// P9.2

func TestOver(t *testing.T) {
	l := yard()
	for n := range l.Exits {
		if !topo.Over(l, n) {
			t.Errorf("the overlap of %d is one", n)
		}
	}
	for _, n := range []int{math.MinInt, -256, -2, -1, 6, 7, 12, 256, 1 << 32, 1<<32 + 1, math.MaxInt} {
		if topo.Over(l, n) {
			t.Errorf("there is no exit %d", n)
		}
	}
	if topo.Over(apart(1, 1), 0) || topo.Over(api.Layout{}, 0) {
		t.Error("there is no exit 0")
	}
}

func TestOverByHand(t *testing.T) {
	for i, x := range []struct {
		at   api.Port
		over []api.Step
		want bool
	}{
		{api.Port{S: 0, P: 1}, nil, true},
		{api.Port{S: 0, P: 1}, []api.Step{{S: 1, In: 0, Out: 2}}, true},
		{api.Port{S: 0, P: 1}, []api.Step{{S: 1, In: 0, Out: 2}, {S: 6, In: 0, Out: 1}}, true},
		{api.Port{S: 0, P: 1}, []api.Step{{S: 1, In: 0, Out: 1}, {S: 2, In: 0, Out: 1}}, true},
		// The next step is not beyond where the one ahead leaves.
		{api.Port{S: 0, P: 1}, []api.Step{{S: 1, In: 0, Out: 1}, {S: 6, In: 0, Out: 1}}, false},
		{api.Port{S: 0, P: 1}, []api.Step{{S: 1, In: 0, Out: 1}, {S: 2, In: 1, Out: 0}}, false},
		{api.Port{S: 0, P: 1}, []api.Step{{S: 1, In: 0, Out: 1}, {S: 2, In: 2, Out: 3}}, false},
		// The first step is not beyond the exit.
		{api.Port{S: 0, P: 1}, []api.Step{{S: 1, In: 1, Out: 0}}, false},
		{api.Port{S: 0, P: 1}, []api.Step{{S: 6, In: 0, Out: 1}}, false},
		{api.Port{S: 1, P: 0}, []api.Step{{S: 1, In: 0, Out: 1}}, false},
		{api.Port{S: 1, P: 0}, []api.Step{{S: 1, In: 1, Out: 0}}, false},
		{api.Port{S: 1, P: 0}, []api.Step{{S: 0, In: 0, Out: 1}}, false},
		{api.Port{S: 1, P: 0}, []api.Step{{S: 0, In: 1, Out: 0}}, true},
		// The track ends beyond the exit, or beyond the first step.
		{api.Port{S: 0, P: 0}, nil, true},
		{api.Port{S: 0, P: 0}, []api.Step{{S: 0, In: 0, Out: 1}}, false},
		{api.Port{S: 0, P: 0}, []api.Step{{S: 9, In: 0, Out: 1}}, false},
		{api.Port{S: 2, P: 1}, []api.Step{{S: 3, In: 0, Out: 1}, {S: 0, In: 0, Out: 1}}, false},
		{api.Port{S: 2, P: 1}, []api.Step{{S: 3, In: 0, Out: 1}, {S: 3, In: 1, Out: 0}}, false},
		// It turns, or goes round, to the exit's own section.
		{api.Port{S: 7, P: 1}, []api.Step{{S: 8, In: 0, Out: 1}, {S: 7, In: 0, Out: 1}}, false},
		{api.Port{S: 0, P: 1}, []api.Step{{S: 1, In: 0, Out: 1}, {S: 1, In: 1, Out: 0}}, false},
		{api.Port{S: 0, P: 1}, []api.Step{{S: 1, In: 0, Out: 1}, {S: 0, In: 1, Out: 0}}, false},
	} {
		l := yard()
		l.Exits = []api.Exit{{At: api.Port{S: 9, P: 0}}, {At: x.at, Over: x.over}}
		if got := topo.Over(l, 1); got != x.want {
			t.Errorf("overlap %d: Over is %v", i, got)
		}
		want, e := fault{}, api.OK
		if !x.want {
			want, e = fault{4, 1}, api.ErrTopo
		}
		wantCheck(t, "overlap "+strconv.Itoa(i), l, want, e)
	}
}

// A crossing has two ways: an overlap that comes back by the other one goes through the exit's own section all the same.
func TestOverThroughTheOtherWayOfItsOwnSection(t *testing.T) {
	l := apart(3, 2)
	tie(&l, api.Port{S: 0, P: 1}, api.Port{S: 1, P: 0})
	tie(&l, api.Port{S: 1, P: 1}, api.Port{S: 0, P: 2})
	l.Exits = []api.Exit{{At: api.Port{S: 0, P: 1}, Over: []api.Step{{S: 1, In: 0, Out: 1}, {S: 0, In: 2, Out: 3}}}}
	wantCheck(t, "come back", l, fault{4, 0}, api.ErrTopo)
	if topo.Over(l, 0) {
		t.Error("it comes back to the exit's own section")
	}
	l.Exits[0].Over = l.Exits[0].Over[:1]
	wantCheck(t, "one step", l, fault{}, api.OK)
}

// Over asks for the numbers, and that overlap, not for other rules: sections that are not joined, too, have what lies beyond. So a section can be gone through twice, or be its own next one.
func TestOverWhereOtherRulesAreBroken(t *testing.T) {
	l := broken(1, 2, 3, 4, 5)
	for n := range l.Exits {
		if got := topo.Over(l, n); got != (n != 7) {
			t.Errorf("Over of %d is %v", n, got)
		}
	}
	l = apart(3, 2)
	l.Sections[0].Join[1] = api.Port{S: 1, P: 0}
	tie(&l, api.Port{S: 1, P: 1}, api.Port{S: 1, P: 2})
	l.Exits = []api.Exit{
		{At: api.Port{S: 0, P: 1}, Over: []api.Step{{S: 1, In: 0, Out: 1}}},
		{At: api.Port{S: 0, P: 1}, Over: []api.Step{{S: 1, In: 0, Out: 1}, {S: 1, In: 2, Out: 3}}},
		{At: api.Port{S: 1, P: 1}, Over: []api.Step{{S: 1, In: 2, Out: 3}}},
	}
	for n, want := range []bool{true, false, false} {
		if got := topo.Over(l, n); got != want {
			t.Errorf("Over of %d is %v", n, got)
		}
	}
	wantCheck(t, "joined to itself", l, fault{1, 0}, api.ErrTopo)
}

func TestOverWhereNumbersMayNotBe(t *testing.T) {
	for i, change := range []func(l *api.Layout){
		func(l *api.Layout) { l.Times.Press = 0 },
		func(l *api.Layout) { l.Sections[9].Class[1] = 1 },
		func(l *api.Layout) { l.Signals[0].At.P = 2 },
		func(l *api.Layout) { l.Flanks[0].Way = 2 },
		func(l *api.Layout) { l.Exits[5].Over = make([]api.Step, 3) },
		func(l *api.Layout) { l.Exits = append(l.Exits, make([]api.Exit, mostExits)...) },
	} {
		l := changed(change)
		for n := range l.Exits {
			if topo.Over(l, n) {
				t.Errorf("numbers %d: the overlap of %d is one", i, n)
			}
		}
	}
}

// P9.3

// whole are layouts that hang together.
func whole(t *testing.T) []api.Layout {
	t.Helper()
	all := []api.Layout{yard(), fullest(), apart(3, mostSections)}
	for _, l := range mixeds() {
		if topo.Right(l) {
			all = append(all, l)
		}
	}
	if len(all) < 200 {
		t.Fatalf("only %d hang together", len(all))
	}
	return all
}

func TestTurningAboutComesBack(t *testing.T) {
	steps := 0
	for i, l := range whole(t) {
		for s, x := range l.Sections {
			for n := range port.Ports(x.Kind) {
				p := api.Port{S: s, P: n}
				for _, on := range join.Steps(l, p) {
					steps++
					back := port.Turned(on)
					if got := join.Beyond(l, api.Port{S: back.S, P: back.Out}); got != p {
						t.Errorf("layout %d: from %v by %v, turned about to %v", i, p, on, got)
					}
				}
			}
		}
	}
	if steps < 1000 {
		t.Errorf("only %d steps", steps)
	}
}

func TestAnOverlapIsAPathOfItsOwn(t *testing.T) {
	seen := [3]int{}
	for i, l := range whole(t) {
		for n, x := range l.Exits {
			seen[len(x.Over)]++
			sections, from := map[int]int{x.At.S: 1}, x.At
			for _, s := range x.Over {
				if sections[s.S]++; sections[s.S] > 1 {
					t.Errorf("layout %d: the overlap of %d goes through %d twice", i, n, s.S)
				}
				if !slices.Contains(join.Steps(l, from), s) {
					t.Errorf("layout %d: the overlap of %d goes from %v by %v", i, n, from, s)
				}
				from = api.Port{S: s.S, P: s.Out}
			}
		}
	}
	if slices.Min(seen[:]) < 50 {
		t.Errorf("too few overlaps: by steps %v", seen)
	}
}

// R1, R3, R4 (R1's wrong numbers: all of the above; R2: TestTheFirstRule, TestNumbersThatMayNotBe; that no answer shares memory: answers are numbers)

func TestLongListsEnd(t *testing.T) {
	const many = 200000
	for i, change := range []func(l *api.Layout){
		func(l *api.Layout) { l.Sections = make([]api.Section, many) },
		func(l *api.Layout) { l.Sections = apart(1, many).Sections },
		func(l *api.Layout) { l.Signals = make([]api.Signal, many) },
		func(l *api.Layout) { l.Exits = make([]api.Exit, many) },
		func(l *api.Layout) { l.Exits[0].Over = make([]api.Step, many) },
		func(l *api.Layout) { l.Flanks = make([]api.Flank, many) },
	} {
		l := changed(change)
		wantCheck(t, "long list "+strconv.Itoa(i), l, fault{}, api.ErrLayout)
		if topo.Over(l, 0) || topo.Over(l, many-1) {
			t.Errorf("long list %d: an overlap is one", i)
		}
	}
}

func TestNilIsEmpty(t *testing.T) {
	l := apart(1, 0)
	l.Sections, l.Signals, l.Exits, l.Flanks = []api.Section{}, []api.Signal{}, []api.Exit{}, []api.Flank{}
	wantCheck(t, "empty", l, fault{}, api.OK)
	y := yard()
	y.Exits[0].Over = []api.Step{}
	wantCheck(t, "an empty overlap", y, fault{}, api.OK)
	if !topo.Over(y, 0) || !topo.Over(yard(), 0) {
		t.Error("the overlap of no steps is one")
	}
}

func TestAnswersHangOnTheirArgumentsAlone(t *testing.T) {
	for i, l := range mixeds()[:500] {
		topo.Check(l)
		topo.Right(l)
		topo.Over(l, i%3)
		wantCheck(t, "behind others", yard(), fault{}, api.OK)
		wantCheck(t, "behind others", broken(2, 4), fault{2, 4}, api.ErrTopo)
		if !topo.Over(broken(2, 4), 5) || topo.Over(broken(2, 4), 6) {
			t.Fatalf("behind calls by %d: another overlap is one", i)
		}
	}
}

// roomy is l in memory of its own, spare room behind each of its lists.
func roomy(l api.Layout) api.Layout {
	own := layout.Own(l)
	own.Sections = append(own.Sections, make([]api.Section, 5)...)[:len(l.Sections)]
	own.Signals = append(own.Signals, make([]api.Signal, 5)...)[:len(l.Signals)]
	own.Flanks = append(own.Flanks, make([]api.Flank, 5)...)[:len(l.Flanks)]
	own.Exits = append(own.Exits, make([]api.Exit, 5)...)[:len(l.Exits)]
	for i, x := range own.Exits {
		own.Exits[i].Over = append(x.Over, make([]api.Step, 5)...)[:len(x.Over)]
	}
	return own
}

// wide is l with its lists as long as there is room; its exits are its own, so that only those of this one have long overlaps.
func wide(l api.Layout) api.Layout {
	l.Sections, l.Signals, l.Flanks = l.Sections[:cap(l.Sections)], l.Signals[:cap(l.Signals)], l.Flanks[:cap(l.Flanks)]
	l.Exits = slices.Clone(l.Exits[:cap(l.Exits)])
	for i, x := range l.Exits {
		l.Exits[i].Over = x.Over[:cap(x.Over)]
	}
	return l
}

func TestArgumentsStay(t *testing.T) {
	all := append(mixeds()[:500], yard(), fullest(), broken(1, 2, 3, 4, 5), broken(5), changed(func(l *api.Layout) { l.Times.Over = 0 }))
	for i, l := range all {
		l = roomy(l)
		was := layout.Own(wide(l))
		topo.Check(l)
		topo.Right(l)
		for n := -1; n <= len(l.Exits); n++ {
			topo.Over(l, n)
		}
		if !layout.Same(wide(l), was) {
			t.Errorf("layout %d, which was handed in, has changed", i)
		}
	}
}
