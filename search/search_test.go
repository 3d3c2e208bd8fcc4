package search_test

import (
	"fmt"
	"math"
	"slices"
	"strconv"
	"testing"

	"lockbar/api"
	"lockbar/layout"
	"lockbar/need"
	"lockbar/rank"
	"lockbar/route"
	"lockbar/search"
	"lockbar/topo"
)

// The limits and errors are written out here, so that a wrong one would be seen.
const (
	mostSections = 24
	mostPath     = 12
	mostVias     = 2
	errArg       = 2
	errNone      = 140
)

// end is where the track ends.
func end() api.Port { return api.Port{S: -1, P: 0} }

// goings are the ends of a kind's ways, by the way's number, as chapter 5 writes them out.
func goings(kind uint8) [][2]int {
	switch kind {
	case 1:
		return [][2]int{{0, 1}}
	case 2:
		return [][2]int{{0, 1}, {0, 2}}
	case 3:
		return [][2]int{{0, 1}, {2, 3}}
	}
	return nil
}

// numbers are such as lie at the edges, and far beyond them.
func numbers() []int {
	return []int{math.MinInt, math.MinInt + 1, math.MinInt32, -256, -13, -2, -1, 0, 1, 2, 3, 4, 5, 9, 11, 12, 13, 23, 24, 25, 255, 256, math.MaxInt32, math.MaxUint32, 1 << 32, 1<<32 + 1, 1 << 62, math.MaxInt - 1, math.MaxInt}
}

// apart are sections of those kinds that join to nothing, and all times at their least.
func apart(kinds ...uint8) api.Layout {
	l := api.Layout{Times: api.Times{Clear: 1, Drive: 1, Stale: 1, Approach: 1, Over: 1, Press: 1, Link: 1}}
	for _, kind := range kinds {
		l.Sections = append(l.Sections, api.Section{Kind: kind, Join: [4]api.Port{end(), end(), end(), end()}})
	}
	return l
}

// at is a port, written by the section, and by the port.
func at(n int) api.Port { return api.Port{S: n / 10, P: n % 10} }

// tie joins each two of these ports, both ways about.
func tie(l *api.Layout, ports ...int) {
	for n := 0; n < len(ports); n += 2 {
		a, b := at(ports[n]), at(ports[n+1])
		l.Sections[a.S].Join[a.P], l.Sections[b.S].Join[b.P] = b, a
	}
}

// short is how steps are written: by the section, and by the ports.
func short(numbers ...int) []api.Step {
	var all []api.Step
	for _, n := range numbers {
		all = append(all, api.Step{S: n / 100, In: n / 10 % 10, Out: n % 10})
	}
	return all
}

// yard is a layout that hangs together: from 0 to 8 three ways lead, through the points 1 and 7 at normal by the crossing 2, and at reverse by 3 and 6, between which 4 and 5 lie. The crossing's other way lies between 9 and 10.
func yard() api.Layout {
	l := apart(1, 2, 3, 2, 1, 1, 2, 2, 1, 1, 1)
	tie(&l, 1, 10, 11, 20, 12, 30, 31, 40, 32, 50, 41, 61, 51, 62, 60, 72, 21, 71, 70, 80, 91, 22, 23, 100)
	l.Signals = []api.Signal{{At: at(0)}, {At: at(81)}, {At: at(90)}}
	l.Exits = []api.Exit{
		{At: at(81)},
		{At: at(0)},
		{At: at(101)},
		{At: at(70), Over: short(801)},
		{At: at(11), Over: short(201, 710)},
		{At: at(60), Over: short(720)},
	}
	return l
}

// The three ways through the yard, as steps are written, and the same the other way about.
func main() []int  { return []int{1, 101, 201, 710, 801} }
func upper() []int { return []int{1, 102, 301, 401, 610, 720, 801} }
func lower() []int { return []int{1, 102, 302, 501, 620, 720, 801} }

func mainBack() []int  { return []int{810, 701, 210, 110, 10} }
func upperBack() []int { return []int{810, 702, 601, 410, 310, 120, 10} }
func lowerBack() []int { return []int{810, 702, 602, 510, 320, 120, 10} }

// changed is a yard with something done to it.
func changed(change func(l *api.Layout)) api.Layout {
	l := yard()
	change(&l)
	return l
}

// flanked is a yard with a flank: S, its way, the point, and where it is wanted.
func flanked(s, way, point, pos int) api.Layout {
	return changed(func(l *api.Layout) { l.Flanks = []api.Flank{{S: s, Way: way, Point: point, Pos: pos}} })
}

// diamonds are that many points that part, with those in which the ways come together, one behind the other, and that many plain sections ahead of all; a signal at the beginning, an exit at the end.
func diamonds(many, plain int) api.Layout {
	l := apart(append(slices.Repeat([]uint8{1}, plain), slices.Repeat([]uint8{2}, 2*many)...)...)
	for n := 1; n < plain; n++ {
		tie(&l, n*10-9, n*10)
	}
	for n := plain; n < plain+2*many; n += 2 {
		tie(&l, n*10+1, n*10+11, n*10+2, n*10+12)
		if n > plain {
			tie(&l, n*10-10, n*10)
		} else if n > 0 {
			tie(&l, n*10-9, n*10)
		}
	}
	l.Signals, l.Exits = []api.Signal{{}}, []api.Exit{{At: at(10*(plain+2*many) - 10)}}
	return l
}

// line is so many plain sections, one behind the other; a signal at the beginning, an exit at the end.
func line(many int) api.Layout {
	l := diamonds(0, many)
	l.Exits[0].At.P = 1
	return l
}

// roller gives numbers from 0 to below n by a rule of its own, so that they are the same each time.
func roller(seed uint32) func(n int) int {
	return func(n int) int {
		seed = seed*1664525 + 1013904223
		return int(seed>>16) % n
	}
}

// ports are all that a layout's sections have.
func ports(l api.Layout) []api.Port {
	var all []api.Port
	for s, x := range l.Sections {
		for p := range int(x.Kind) + 1 {
			all = append(all, api.Port{S: s, P: p})
		}
	}
	return all
}

// mixed is a layout by a rule: sections, most of them points, joined as it comes, or most of them in diamonds; classes, signals and exits, half of them where the track ends, overlaps, flanks.
func mixed(seed uint32) api.Layout {
	roll := roller(seed)
	l := diamonds(roll(5), roll(3))
	for range 1 + roll(8) {
		l.Sections = append(l.Sections, apart([]uint8{1, 2, 2, 2, 3}[roll(5)]).Sections...)
	}
	l.Signals, l.Exits = nil, nil
	all := ports(l)
	for range 3 * len(all) {
		a, b := all[roll(len(all))], all[roll(len(all))]
		if a.S != b.S && l.Sections[a.S].Join[a.P] == end() && l.Sections[b.S].Join[b.P] == end() {
			l.Sections[a.S].Join[a.P], l.Sections[b.S].Join[b.P] = b, a
		}
	}
	for range roll(5) {
		s := roll(len(l.Sections))
		l.Sections[s].Class[roll(len(goings(l.Sections[s].Kind)))] = roll(4)
	}
	ends := append(slices.DeleteFunc(slices.Clone(all), func(p api.Port) bool { return l.Sections[p.S].Join[p.P] != end() }), all[0])
	for n := range 1 + roll(4) {
		some := [][]api.Port{ends, all}[n%2]
		if a := some[roll(len(some))]; layout.Signal(l, a) < 0 {
			l.Signals = append(l.Signals, api.Signal{At: a})
		}
	}
	for n := range 1 + roll(9) {
		some := [][]api.Port{ends, all}[n%2]
		if a := some[roll(len(some))]; layout.Exit(l, a) < 0 {
			l.Exits = append(l.Exits, api.Exit{At: a, Over: walked(l, a, roll(3), roll)})
		}
	}
	for range roll(7) {
		f := api.Flank{S: roll(len(l.Sections)), Point: roll(len(l.Sections)), Pos: roll(2)}
		f.Way = roll(len(goings(l.Sections[f.S].Kind)))
		if f.S != f.Point && l.Sections[f.Point].Kind == 2 {
			l.Flanks = append(l.Flanks, f)
		}
	}
	return l
}

// walked are steps on from a port, by what lies beyond, as many as there can be.
func walked(l api.Layout, from api.Port, many int, roll func(n int) int) []api.Step {
	var all []api.Step
	for range many {
		in := l.Sections[from.S].Join[from.P]
		on := slices.DeleteFunc(steps(l), func(s api.Step) bool { return s.S != in.S || s.In != in.P })
		if len(on) == 0 {
			break
		}
		s := on[roll(len(on))]
		all, from = append(all, s), api.Port{S: s.S, P: s.Out}
	}
	return all
}

// whole are layouts that hang together.
func whole(t *testing.T) []api.Layout {
	t.Helper()
	all := []api.Layout{yard(), line(1), line(mostPath), line(mostSections), diamonds(5, 2)}
	first := len(all)
	for seed := range uint32(700) {
		all = append(all, mixed(seed))
	}
	for _, l := range all[:first] {
		if !topo.Right(l) {
			t.Fatal("one of the first does not hang together")
		}
	}
	all = slices.DeleteFunc(all, func(l api.Layout) bool { return !topo.Right(l) })
	if len(all) < 600 {
		t.Fatalf("only %d hang together", len(all))
	}
	return all
}

// odds are layouts that do not hang together: of nothing, of wrong numbers, of too much, of each rule that is broken.
func odds() []api.Layout {
	wild, long := yard(), apart(slices.Repeat([]uint8{2}, 40)...)
	for i, n := range numbers() {
		m := numbers()[i*7%len(numbers())]
		wild.Sections[i%10].Join[i/10%4] = api.Port{S: n, P: m}
		wild.Signals = append(wild.Signals, api.Signal{At: api.Port{S: n, P: i % 3}}, api.Signal{At: api.Port{S: i % 10, P: m}})
		wild.Exits = append(wild.Exits, api.Exit{At: api.Port{S: n, P: m}, Over: []api.Step{{S: n, In: m, Out: i}, {S: m}, {}, {Out: n}}[:i%5]})
	}
	for n := range 40 {
		tie(&long, n*10+1, (n+1)%40*10)
	}
	long.Signals, long.Exits = []api.Signal{{}}, []api.Exit{{At: at(31)}}
	return []api.Layout{
		{}, wild, long, {Sections: make([]api.Section, 3), Signals: make([]api.Signal, 3), Exits: make([]api.Exit, 3)},
		changed(func(l *api.Layout) { l.Times.Link = 0 }),
		changed(func(l *api.Layout) { l.Times.Clear = 1001 }),
		changed(func(l *api.Layout) { l.Sections = nil }),
		changed(func(l *api.Layout) { l.Sections[10].Kind = 4 }),
		changed(func(l *api.Layout) { l.Sections[4].Class[0] = 4 }),
		changed(func(l *api.Layout) { l.Flanks = []api.Flank{{S: 1, Point: 1}} }),
		changed(func(l *api.Layout) { l.Exits[2].Over = make([]api.Step, 3) }),
		changed(func(l *api.Layout) { l.Sections[10].Join[0] = end() }),
		changed(func(l *api.Layout) { l.Signals[2] = l.Signals[1] }),
		changed(func(l *api.Layout) { l.Exits[5].At = l.Exits[4].At }),
		changed(func(l *api.Layout) { l.Exits[2].Over = short(801) }),
		changed(func(l *api.Layout) { l.Flanks = []api.Flank{{S: 1, Point: 6}, {S: 1, Point: 6}} }),
	}
}

// The reference: the chapters' words, by other means than the package's: paths are made from the exit back to the signal, and looked at when they are made.

// steps are those that are there.
func steps(l api.Layout) []api.Step {
	var all []api.Step
	for s, x := range l.Sections {
		for _, e := range goings(x.Kind) {
			all = append(all, api.Step{S: s, In: e[0], Out: e[1]}, api.Step{S: s, In: e[1], Out: e[0]})
		}
	}
	return all
}

// sections are those that steps go through, in order.
func sections(row []api.Step) []int {
	all := []int{}
	for _, s := range row {
		all = append(all, s.S)
	}
	return all
}

// backFrom are all rows of up to 12 steps that leave at a port, and go through no section twice.
func backFrom(l api.Layout, out api.Port) [][]api.Step {
	type back struct {
		row []api.Step
		out api.Port
	}
	all, rows := []back{{nil, out}}, [][]api.Step{}
	there := steps(l)
	for n := 0; n < len(all); n++ {
		for _, s := range there {
			if len(all[n].row) < 12 && all[n].out == (api.Port{S: s.S, P: s.Out}) && !slices.Contains(sections(all[n].row), s.S) {
				row := append([]api.Step{s}, all[n].row...)
				all = append(all, back{row, l.Sections[s.S].Join[s.In]})
				rows = append(rows, row)
			}
		}
	}
	return rows
}

// served is what serves of a layout, without vias: of each signal and exit, those ahead first.
func served(l api.Layout) map[[2]int][]api.Path {
	all := map[[2]int][]api.Path{}
	for x, e := range l.Exits {
		for _, row := range backFrom(l, e.At) {
			n := begins(l, row)
			if n < 0 || clashes(l, slices.Concat(row, e.Over)) || slices.ContainsFunc(e.Over, func(s api.Step) bool { return slices.Contains(sections(row), s.S) }) {
				continue
			}
			all[[2]int{n, x}] = append(all[[2]int{n, x}], api.Path{Signal: n, Exit: x, Steps: row})
		}
	}
	for _, paths := range all {
		slices.SortFunc(paths, func(a, b api.Path) int { return slices.Compare(rowOf(l, a.Steps), rowOf(l, b.Steps)) })
	}
	return all
}

// begins is the number of the signal at which steps enter first, if no other one stands at a port by which they enter; else -1.
func begins(l api.Layout, row []api.Step) int {
	first := -1
	for k, s := range row {
		for n, x := range l.Signals {
			if x.At == (api.Port{S: s.S, P: s.In}) && k > 0 {
				return -1
			}
			if x.At == (api.Port{S: s.S, P: s.In}) {
				first = n
			}
		}
	}
	return first
}

// wayOf is the way by which a step that is there goes.
func wayOf(l api.Layout, s api.Step) int {
	return slices.IndexFunc(goings(l.Sections[s.S].Kind), func(e [2]int) bool { return e[0]+e[1] == s.In+s.Out })
}

// clashes tells whether steps want a point both ways.
func clashes(l api.Layout, row []api.Step) bool {
	wanted := map[[2]int]int{}
	for _, s := range row {
		if l.Sections[s.S].Kind == 2 {
			wanted[[2]int{s.S, wayOf(l, s)}]++
		}
		for _, f := range l.Flanks {
			if f.S == s.S && f.Way == wayOf(l, s) {
				wanted[[2]int{f.Point, f.Pos}]++
			}
		}
	}
	for p := range l.Sections {
		if wanted[[2]int{p, 0}] > 0 && wanted[[2]int{p, 1}] > 0 {
			return true
		}
	}
	return false
}

// rowOf is the row of numbers by which a path of these steps is ahead.
func rowOf(l api.Layout, row []api.Step) []int {
	all := []int{0, len(row)}
	for _, s := range row {
		all[0] = max(all[0], l.Sections[s.S].Class[wayOf(l, s)])
		if l.Sections[s.S].Kind == 2 {
			all = append(all, wayOf(l, s))
		}
	}
	return all
}

// by are those of paths that go by vias, at most two: each is looked for, and the second one has to stand behind the first.
func by(all []api.Path, vias []int) []api.Path {
	return slices.DeleteFunc(slices.Clone(all), func(p api.Path) bool {
		behind := -1
		for _, v := range vias {
			n := slices.Index(sections(p.Steps), v)
			if n <= behind {
				return true
			}
			behind = n
		}
		return false
	})
}

// samePaths tells whether paths are the same, in order.
func samePaths(a, b []api.Path) bool {
	return slices.EqualFunc(a, b, func(a, b api.Path) bool {
		return a.Signal == b.Signal && a.Exit == b.Exit && slices.Equal(a.Steps, b.Steps)
	})
}

// wantAll holds what All and Of answer against what is wanted.
func wantAll(t *testing.T, what string, l api.Layout, signal, exit int, vias []int, want []api.Path, e api.Errno) {
	t.Helper()
	if got, f := search.All(l, signal, exit, vias...); f != e || !samePaths(got, want) || f != 0 && got != nil {
		t.Errorf("%s: All from %d to %d by %v is %v, %d, want %v, %d", what, signal, exit, vias, got, f, want, e)
	}
	if got, f := search.Of(l, api.Request{Signal: signal, Exit: exit, Vias: vias}); f != e || !samePaths(got, want) || f != 0 && got != nil {
		t.Errorf("%s: Of %d to %d by %v is %v, %d, want %v, %d", what, signal, exit, vias, got, f, want, e)
	}
}

// wantFound is wantAll by paths that serve, of which there may be none.
func wantFound(t *testing.T, what string, l api.Layout, signal, exit int, vias []int, want []api.Path) {
	t.Helper()
	e := api.Errno(0)
	if len(want) == 0 {
		e = errNone
	}
	wantAll(t, what, l, signal, exit, vias, want, e)
}

// P14.1

func TestLimitsAreThoseOfTheApi(t *testing.T) {
	if api.MaxPath != mostPath || api.MaxVias != mostVias || api.MaxSections != mostSections {
		t.Error("another limit")
	}
	if api.ErrArg != errArg || api.ErrNone != errNone {
		t.Error("another error")
	}
}

func TestExample(t *testing.T) {
	l, p := line(1), []api.Path{{Steps: short(1)}}
	wantAll(t, "one plain section", l, 0, 0, nil, p, api.OK)
	wantAll(t, "by itself", l, 0, 0, []int{0}, p, api.OK)
	wantAll(t, "by itself, twice", l, 0, 0, []int{0, 0}, nil, errNone)
	wantAll(t, "by another", l, 0, 0, []int{1}, nil, errArg)
}

func TestAllByHand(t *testing.T) {
	l := yard()
	signal := func(n int) api.Layout {
		return changed(func(l *api.Layout) { l.Signals = append(l.Signals, api.Signal{At: at(n)}) })
	}
	class := func(classes ...int) api.Layout {
		return changed(func(l *api.Layout) {
			for _, n := range classes {
				l.Sections[n/100].Class[n/10%10] = n % 10
			}
		})
	}
	// A ring: beyond the exit lie 11, and 0 again.
	ring := func(many int) api.Layout {
		return changed(func(l *api.Layout) {
			l.Sections = append(l.Sections, apart(1).Sections...)
			tie(l, 81, 110, 111, 0)
			l.Exits[0].Over = short(1101, 1)[:many]
		})
	}
	for i, x := range []struct {
		l            api.Layout
		signal, exit int
		vias         []int
		want         [][]int
	}{
		// Those with fewer steps first, then those whose first point lies at normal.
		{l, 0, 0, nil, [][]int{main(), upper(), lower()}},
		{l, 1, 1, nil, [][]int{mainBack(), upperBack(), lowerBack()}},
		{l, 0, 3, nil, [][]int{main()[:4], upper()[:6], lower()[:6]}},
		{l, 0, 5, nil, [][]int{upper()[:5], lower()[:5]}},
		{l, 0, 4, nil, [][]int{{1, 101}}},
		{l, 2, 2, nil, [][]int{{901, 223, 1001}}},
		// None leads there: the wrong way about, by the crossing's other way, from where it begins.
		{l, 0, 1, nil, nil}, {l, 0, 2, nil, nil}, {l, 1, 0, nil, nil}, {l, 1, 4, nil, nil}, {l, 2, 0, nil, nil},
		// By vias: of the one path, of two, of all; ahead of each other, and not; of what is of the overlap alone.
		{l, 0, 0, []int{2}, [][]int{main()}},
		{l, 0, 0, []int{5}, [][]int{lower()}},
		{l, 0, 0, []int{3}, [][]int{upper(), lower()}},
		{l, 0, 0, []int{0}, [][]int{main(), upper(), lower()}},
		{l, 0, 0, []int{0, 8}, [][]int{main(), upper(), lower()}},
		{l, 0, 0, []int{3, 7}, [][]int{upper(), lower()}},
		{l, 0, 0, []int{1, 4}, [][]int{upper()}},
		{l, 0, 0, []int{7, 3}, nil}, {l, 0, 0, []int{8, 0}, nil}, {l, 0, 0, []int{4, 5}, nil}, {l, 0, 0, []int{2, 2}, nil}, {l, 0, 0, []int{9}, nil},
		{l, 0, 3, []int{8}, nil}, {l, 0, 5, []int{7}, nil}, {l, 1, 1, []int{3, 6}, nil},
		{l, 1, 1, []int{6, 3}, [][]int{upperBack(), lowerBack()}},
		// A greater class puts it behind, whatever else; a lesser one than another does not.
		{class(101), 0, 0, nil, [][]int{upper(), lower(), main()}},
		{class(101), 1, 1, nil, [][]int{upperBack(), lowerBack(), mainBack()}},
		{class(102, 501), 0, 0, nil, [][]int{upper(), lower(), main()}},
		{class(102, 503), 0, 0, nil, [][]int{upper(), main(), lower()}},
		{class(3, 103, 203), 0, 0, nil, [][]int{main(), upper(), lower()}},
		{class(401), 0, 5, nil, [][]int{lower()[:5], upper()[:5]}},
		{class(401, 611), 0, 5, nil, [][]int{upper()[:5], lower()[:5]}},
		{class(213), 0, 0, nil, [][]int{main(), upper(), lower()}},
		// Past no signal, but where it stands for the other way about, or at the exit, or in the overlap.
		{signal(40), 0, 0, nil, [][]int{main(), lower()}},
		{signal(40), 0, 0, []int{4}, nil},
		{signal(41), 0, 0, nil, [][]int{main(), upper(), lower()}},
		{signal(41), 1, 1, nil, [][]int{mainBack(), lowerBack()}},
		{signal(72), 0, 0, nil, [][]int{main()}},
		{signal(80), 0, 0, nil, nil},
		{signal(80), 0, 3, nil, [][]int{main()[:4], upper()[:6], lower()[:6]}},
		{signal(22), 0, 0, nil, [][]int{main(), upper(), lower()}},
		{signal(10), 0, 0, nil, nil},
		{signal(10), 3, 0, nil, [][]int{main()[1:], upper()[1:], lower()[1:]}},
		{signal(1), 0, 0, nil, [][]int{main(), upper(), lower()}},
		// Through what is of the overlap: not the ring's own beginning.
		{ring(0), 0, 0, nil, [][]int{main(), upper(), lower()}},
		{ring(1), 0, 0, nil, [][]int{main(), upper(), lower()}},
		{ring(2), 0, 0, nil, nil},
		{changed(func(l *api.Layout) { tie(l, 81, 90); l.Exits[0].Over = short(901, 223) }), 0, 0, nil, [][]int{upper(), lower()}},
		{changed(func(l *api.Layout) { tie(l, 81, 90); l.Exits[0].Over = short(901) }), 0, 0, nil, [][]int{main(), upper(), lower()}},
		// What wants a point both ways can't be locked: a flank against the path's own point, behind it and ahead of it; two flanks; the overlap's.
		{flanked(4, 0, 1, 0), 0, 0, nil, [][]int{main(), lower()}},
		{flanked(4, 0, 1, 1), 0, 0, nil, [][]int{main(), upper(), lower()}},
		{flanked(4, 0, 7, 0), 1, 1, nil, [][]int{mainBack(), lowerBack()}},
		{flanked(8, 0, 3, 0), 0, 0, nil, [][]int{main(), upper()}},
		{flanked(8, 0, 3, 0), 0, 3, nil, [][]int{main()[:4], upper()[:6]}},
		{flanked(8, 0, 3, 0), 0, 3, []int{5}, nil},
		{flanked(8, 0, 3, 0), 0, 5, nil, [][]int{upper()[:5], lower()[:5]}},
		{flanked(2, 1, 1, 1), 0, 0, nil, [][]int{main(), upper(), lower()}},
		{flanked(2, 0, 1, 1), 0, 0, nil, [][]int{upper(), lower()}},
		{flanked(2, 0, 1, 1), 0, 4, nil, nil},
		{changed(func(l *api.Layout) {
			l.Flanks = []api.Flank{{S: 0, Point: 3, Pos: 1}, {S: 2, Point: 3, Pos: 0}, {S: 5, Point: 3, Pos: 1}}
		}), 0, 0, nil, [][]int{lower()}},
	} {
		var want []api.Path
		for _, row := range x.want {
			want = append(want, api.Path{Signal: x.signal, Exit: x.exit, Steps: short(row...)})
		}
		if !topo.Right(x.l) {
			t.Errorf("row %d does not hang together", i)
		}
		wantFound(t, "row "+strconv.Itoa(i), x.l, x.signal, x.exit, x.vias, want)
	}
}

// From 1 to MaxPath steps, no more; of none there is no path.
func TestHowManySteps(t *testing.T) {
	for many := 1; many <= mostSections; many++ {
		var want []api.Path
		if many <= 12 {
			want = []api.Path{{Steps: nil}}
			for n := range many {
				want[0].Steps = append(want[0].Steps, api.Step{S: n, In: 0, Out: 1})
			}
		}
		wantFound(t, "line", line(many), 0, 0, nil, want)
		wantFound(t, "line, by its ends", line(many), 0, 0, []int{many - 1}, want)
		same := line(many)
		same.Exits[0] = api.Exit{At: same.Signals[0].At}
		wantFound(t, "to where it begins", same, 0, 0, nil, nil)
	}
	wantFound(t, "12 steps by points", diamonds(5, 2), 0, 0, []int{11}, served(diamonds(5, 2))[[2]int{0, 0}])
	wantFound(t, "13 steps by points", diamonds(6, 1), 0, 0, nil, nil)
}

// As many paths as points part: they come as numbers do that count up.
func TestManyPaths(t *testing.T) {
	got, e := search.All(diamonds(6, 0), 0, 0)
	if e != api.OK || len(got) != 64 {
		t.Fatalf("%d paths, %d", len(got), e)
	}
	for n, p := range got {
		var want []api.Step
		for k := range 6 {
			by := 1 + n>>(5-k)&1
			want = append(want, api.Step{S: 2 * k, In: 0, Out: by}, api.Step{S: 2*k + 1, In: by, Out: 0})
		}
		if !slices.Equal(p.Steps, want) || p.Signal != 0 || p.Exit != 0 {
			t.Errorf("path %d is %v", n, p)
		}
	}
	if long, e := search.All(diamonds(12, 0), 0, 0); e != errNone || long != nil {
		t.Errorf("through 24 points: %v, %d", long, e)
	}
}

// viaLists are all lists of up to two sections, in order.
func viaLists(below int) [][]int {
	all := [][]int{nil}
	for a := range below {
		all = append(all, []int{a})
		for b := range below {
			all = append(all, []int{a, b})
		}
	}
	return all
}

// Each signal and exit of all layouts, by vias: of some layouts by all that there may be, of others by some.
func TestAll(t *testing.T) {
	roll, seen, twoVias := roller(1), [4]int{}, 0
	for i, l := range whole(t) {
		all, lists := served(l), viaLists(len(l.Sections))
		for n := range len(l.Signals) * len(l.Exits) {
			signal, exit := n%len(l.Signals), n/len(l.Signals)
			paths := all[[2]int{signal, exit}]
			seen[min(len(paths), 3)]++
			wantFound(t, "layout "+strconv.Itoa(i), l, signal, exit, nil, paths)
			for k, vias := range lists {
				if len(paths) == 0 && k%29 > 0 || i > 50 && roll(20) > 0 {
					continue
				}
				want := by(paths, vias)
				if len(vias) == 2 && len(want) > 0 {
					twoVias++
				}
				wantFound(t, "layout "+strconv.Itoa(i), l, signal, exit, vias, want)
			}
		}
	}
	if slices.Min(seen[:]) < 100 || twoVias < 500 {
		t.Errorf("too few: by paths %v, by two vias %d", seen, twoVias)
	}
}

// ErrArg, and nothing, whether or not there would be a path; nothing else is wrong.
func TestErrArg(t *testing.T) {
	for i, l := range odds() {
		for _, vias := range [][]int{nil, {2}, {7, 1}, {-1}, {1, 2, 3}} {
			for _, n := range []int{0, 1, -1, 99} {
				wantAll(t, "layout "+strconv.Itoa(i), l, n, 0, vias, nil, errArg)
				wantAll(t, "layout "+strconv.Itoa(i), l, 0, n, vias, nil, errArg)
			}
		}
	}
	l := yard()
	for _, n := range numbers() {
		if n < 0 || n > 2 {
			wantAll(t, "signal", l, n, 0, nil, nil, errArg)
			wantAll(t, "signal, exit of no path", l, n, 1, []int{2}, nil, errArg)
		}
		if n < 0 || n > 5 {
			wantAll(t, "exit", l, 0, n, nil, nil, errArg)
			wantAll(t, "signal and exit", l, n, n, nil, nil, errArg)
		}
		if n < 0 || n > 10 {
			for _, vias := range [][]int{{n}, {n, 2}, {2, n}, {n, n}, {9, n}} {
				wantAll(t, "via", l, 0, 0, vias, nil, errArg)
				wantAll(t, "via of no path", l, 0, 1, vias, nil, errArg)
			}
		}
	}
	for _, vias := range [][]int{{0, 1, 2}, {2, 2, 2}, {0, 1, 2, 7, 8}, make([]int, 300)} {
		wantAll(t, "too many vias", l, 0, 0, vias, nil, errArg)
		wantAll(t, "too many vias of no path", l, 0, 1, vias, nil, errArg)
	}
	wantAll(t, "no signals", changed(func(l *api.Layout) { l.Signals = nil }), 0, 0, nil, nil, errArg)
	wantAll(t, "no exits", changed(func(l *api.Layout) { l.Exits = nil }), 0, 0, nil, nil, errArg)
}

// P14.2

// wantFrom holds what From and Exits answer against what is wanted.
func wantFrom(t *testing.T, what string, l api.Layout, signal int, want []api.Path) {
	t.Helper()
	if got := search.From(l, signal); !samePaths(got, want) {
		t.Errorf("%s: From %d is %v, want %v", what, signal, got, want)
	}
	exits := []int{}
	for _, p := range want {
		exits = append(exits, p.Exit)
	}
	exits = slices.Compact(exits)
	if got := search.Exits(l, signal); !slices.Equal(got, exits) {
		t.Errorf("%s: Exits of %d is %v, want %v", what, signal, got, exits)
	}
}

// to are paths of a signal to an exit, by steps as they are written.
func to(signal, exit int, rows ...[]int) []api.Path {
	var all []api.Path
	for _, row := range rows {
		all = append(all, api.Path{Signal: signal, Exit: exit, Steps: short(row...)})
	}
	return all
}

func TestFromByHand(t *testing.T) {
	l := yard()
	rest := slices.Concat(to(0, 4, []int{1, 101}), to(0, 5, upper()[:5], lower()[:5]))
	first := slices.Concat(to(0, 0, main(), upper(), lower()), to(0, 3, main()[:4], upper()[:6], lower()[:6]), rest)
	wantFrom(t, "yard", l, 0, first)
	wantFrom(t, "yard", l, 1, to(1, 1, mainBack(), upperBack(), lowerBack()))
	wantFrom(t, "yard", l, 2, to(2, 2, []int{901, 223, 1001}))
	// Those ahead first only of one exit: the exits' numbers go ahead of that.
	behind := changed(func(l *api.Layout) { l.Sections[8].Class[0] = 3 })
	wantFrom(t, "behind", behind, 0, first)
	// Flanks of 8, which only the first exit's paths and the fourth's overlap want.
	some := slices.Concat(to(0, 0, main(), lower()), to(0, 3, main()[:4], lower()[:6]), rest)
	wantFrom(t, "flanked", flanked(8, 0, 3, 1), 0, some)
	wantFrom(t, "flanked", flanked(0, 0, 1, 1), 0, slices.Concat(to(0, 0, upper(), lower()), to(0, 3, upper()[:6], lower()[:6]), to(0, 5, upper()[:5], lower()[:5])))
	wantFrom(t, "no way at all", changed(func(l *api.Layout) { l.Signals[1].At = at(10) }), 0, nil)
	wantFrom(t, "no exits", changed(func(l *api.Layout) { l.Exits = nil }), 0, nil)
	for _, n := range numbers() {
		if n < 0 || n > 2 {
			wantFrom(t, "no such signal", l, n, nil)
		}
	}
}

// Of layouts that do not hang together nothing comes, whatever the signal.
func TestFromWhereLayoutsDoNotHangTogether(t *testing.T) {
	for i, l := range odds() {
		for n := -1; n < 4; n++ {
			wantFrom(t, "layout "+strconv.Itoa(i), l, n, nil)
		}
	}
}

// Each signal of all layouts, one below, one above.
func TestFrom(t *testing.T) {
	seen := 0
	for i, l := range whole(t) {
		all := served(l)
		for n := -1; n <= len(l.Signals); n++ {
			var want []api.Path
			some := 0
			for x := range l.Exits {
				want = append(want, all[[2]int{n, x}]...)
				some += min(1, len(all[[2]int{n, x}]))
			}
			if some > 1 {
				seen++
			}
			wantFrom(t, "layout "+strconv.Itoa(i), l, n, want)
		}
	}
	if seen < 200 {
		t.Errorf("only %d signals with paths to several exits", seen)
	}
}

// P14.3

// ask is what All answers, where that is no error.
func ask(l api.Layout, signal, exit int, vias ...int) []api.Path {
	all, _ := search.All(l, signal, exit, vias...)
	return all
}

// Each that is told serves, once, those ahead first.
func TestEachThatIsToldServes(t *testing.T) {
	seen := 0
	for i, l := range whole(t) {
		for n := range len(l.Signals) * len(l.Exits) {
			for m, vias := range viaLists(len(l.Sections)) {
				if m > 0 && m%11 != n%11 {
					continue
				}
				all := ask(l, n%len(l.Signals), n/len(l.Signals), vias...)
				for k, p := range all {
					seen++
					if !route.Is(l, p, vias...) || !need.Fine(l, p) || p.Signal != n%len(l.Signals) || p.Exit != n/len(l.Signals) {
						t.Errorf("layout %d: %v does not serve by %v", i, p, vias)
					}
					if k > 0 && rank.Cmp(l, all[k-1], p) >= 0 {
						t.Errorf("layout %d: %v comes ahead of %v", i, all[k-1], p)
					}
				}
			}
		}
	}
	if seen < 2000 {
		t.Errorf("only %d paths", seen)
	}
}

// Each that serves is told: all rows of up to five steps that are there, of small layouts.
func TestEachThatServesIsTold(t *testing.T) {
	l := apart(2, 2, 1)
	tie(&l, 1, 11, 2, 12, 10, 20)
	l.Signals = []api.Signal{{At: at(0)}, {At: at(21)}}
	l.Exits = []api.Exit{{At: at(21)}, {At: at(0)}, {At: at(10)}, {At: at(1)}}
	other := layout.Own(l)
	tie(&other, 0, 21)
	other.Signals[1].At = at(20)
	other.Exits[2].Over = short(201)
	other.Flanks = []api.Flank{{S: 2, Point: 1, Pos: 1}, {S: 0, Way: 0, Point: 1, Pos: 0}}
	for i, l := range []api.Layout{l, other} {
		if !topo.Right(l) {
			t.Fatalf("layout %d does not hang together", i)
		}
		told, found := 0, 0
		for n := range len(l.Signals) * len(l.Exits) {
			signal, exit := n%len(l.Signals), n/len(l.Signals)
			all := ask(l, signal, exit)
			told += len(all)
			for _, row := range rows(steps(l), 4) {
				p := api.Path{Signal: signal, Exit: exit, Steps: row}
				serves := route.Is(l, p) && need.Fine(l, p)
				if serves {
					found++
				}
				if slices.ContainsFunc(all, func(q api.Path) bool { return rank.Same(p, q) }) != serves {
					t.Errorf("layout %d: %v serves: %v", i, p, serves)
				}
			}
		}
		if told != found || told < 3 {
			t.Errorf("layout %d: %d are told of %d", i, told, found)
		}
	}
}

// rows are all of up to so many of some.
func rows(some []api.Step, many int) [][]api.Step {
	all := [][]api.Step{nil}
	for n := 0; n < len(all); n++ {
		for _, s := range some {
			if len(all[n]) < many {
				all = append(all, append(slices.Clone(all[n]), s))
			}
		}
	}
	return all
}

// With more vias none comes that did not without them, and those that do come in the same order.
func TestWithMoreViasNoOtherComes(t *testing.T) {
	seen := 0
	for i, l := range whole(t) {
		for n := range len(l.Signals) * len(l.Exits) {
			signal, exit := n%len(l.Signals), n/len(l.Signals)
			all := ask(l, signal, exit)
			if len(all) < 2 {
				continue
			}
			for v := range l.Sections {
				one := ask(l, signal, exit, v)
				two := slices.Concat(ask(l, signal, exit, v, n%len(l.Sections)), ask(l, signal, exit, n%len(l.Sections), v))
				if !among(one, all) || !among(two, one) {
					t.Errorf("layout %d: by %d come %v, then %v of %v", i, v, one, two, all)
				}
				seen += len(two)
			}
		}
	}
	if seen < 1000 {
		t.Errorf("only %d paths by two vias", seen)
	}
}

// among tells whether each of some is one of all.
func among(some, all []api.Path) bool {
	return !slices.ContainsFunc(some, func(p api.Path) bool {
		return !slices.ContainsFunc(all, func(q api.Path) bool { return rank.Same(p, q) })
	})
}

// R1 to R4 (R1's wrong numbers, R2: TestErrArg, TestFromByHand)

func TestLongListsEnd(t *testing.T) {
	const many = 200000
	long, vias := apart(slices.Repeat([]uint8{2}, many)...), make([]int, many)
	for n := range many {
		tie(&long, n*10+1, (n+1)%many*10)
	}
	long.Signals, long.Exits, long.Flanks = make([]api.Signal, many), make([]api.Exit, many), make([]api.Flank, many)
	wantAll(t, "a long layout", long, 0, 0, nil, nil, errArg)
	wantAll(t, "a long layout, long vias", long, many-1, many-1, vias, nil, errArg)
	wantAll(t, "long vias", yard(), 0, 0, vias, nil, errArg)
	wantFrom(t, "a long layout", long, 0, nil)
	exits := changed(func(l *api.Layout) { l.Exits = make([]api.Exit, many) })
	wantAll(t, "many exits", exits, 0, many-1, nil, nil, errArg)
	wantFrom(t, "many exits", exits, 0, nil)
	over := changed(func(l *api.Layout) { l.Exits[0].Over = make([]api.Step, many) })
	wantAll(t, "a long overlap", over, 0, 0, nil, nil, errArg)
	wantFrom(t, "a long overlap", over, 0, nil)
}

func TestNilIsEmpty(t *testing.T) {
	l := yard()
	l.Flanks, l.Exits[0].Over = []api.Flank{}, []api.Step{}
	want := to(0, 0, main(), upper(), lower())
	for _, vias := range [][]int{nil, {}, make([]int, 0, 9)} {
		wantAll(t, "no vias", yard(), 0, 0, vias, want, api.OK)
		wantAll(t, "empty", l, 0, 0, vias, want, api.OK)
	}
	bare := api.Layout{Sections: []api.Section{}, Signals: []api.Signal{}, Exits: []api.Exit{}, Flanks: []api.Flank{}, Times: l.Times}
	wantAll(t, "nothing", bare, 0, 0, nil, nil, errArg)
	wantFrom(t, "nothing", bare, 0, nil)
}

// tell is what all calls tell of a layout, of each signal to each exit, by vias, as text.
func tell(l api.Layout, vias ...int) string {
	all := ""
	for signal := -1; signal <= min(len(l.Signals), 3); signal++ {
		for exit := -1; exit <= min(len(l.Exits), 6); exit++ {
			a, e := search.All(l, signal, exit, vias...)
			b, f := search.Of(l, api.Request{Signal: signal, Exit: exit, Vias: vias})
			all += fmt.Sprintln(a, e, b, f)
		}
		all += fmt.Sprintln(search.From(l, signal), search.Exits(l, signal))
	}
	return all
}

func TestAnswersHangOnTheirArgumentsAlone(t *testing.T) {
	was := tell(yard(), 3) + tell(diamonds(5, 0))
	for i, l := range slices.Concat(whole(t)[:200], odds()) {
		tell(l, i%9)
		if now := tell(yard(), 3) + tell(diamonds(5, 0)); now != was {
			t.Fatalf("behind calls by layout %d: %s, then %s", i, was, now)
		}
	}
}

// roomy is a list in memory of its own, with spare room behind it.
func roomy[T any](all []T) []T {
	return append(slices.Clip(slices.Clone(all)), make([]T, 20)...)[:len(all)]
}

// wide is a list as long as there is room.
func wide[T any](all []T) []T { return all[:cap(all)] }

// spoil writes over all of paths, and of their steps, spare room, too.
func spoil(all []api.Path) {
	for n, p := range wide(all) {
		for k := range wide(p.Steps) {
			wide(p.Steps)[k] = api.Step{S: 77, In: 7, Out: 7}
		}
		wide(all)[n] = api.Path{Signal: 77}
	}
}

// What was handed in stays, its spare room, too, though answers are written over.
func TestArgumentsStay(t *testing.T) {
	for i, l := range slices.Concat(whole(t), odds()) {
		l = layout.Own(l)
		l.Sections, l.Signals, l.Exits, l.Flanks = roomy(l.Sections), roomy(l.Signals), roomy(l.Exits), roomy(l.Flanks)
		for n, x := range l.Exits {
			l.Exits[n].Over = roomy(x.Over)
		}
		big := l
		big.Sections, big.Signals, big.Flanks, big.Exits = wide(l.Sections), wide(l.Signals), wide(l.Flanks), slices.Clone(wide(l.Exits))
		for n, x := range big.Exits {
			big.Exits[n].Over = wide(x.Over)
		}
		was := layout.Own(big)
		for n := range len(l.Signals) * len(l.Exits) {
			vias := roomy([]int{n % max(1, len(l.Sections)), 3}[:n%3])
			before := slices.Clone(wide(vias))
			spoil(ask(l, n%len(l.Signals), n/len(l.Signals), vias...))
			of, _ := search.Of(l, api.Request{Signal: n % len(l.Signals), Exit: n / len(l.Signals), Vias: vias})
			spoil(of)
			spoil(search.From(l, n%len(l.Signals)))
			search.Exits(l, n%len(l.Signals))
			if !slices.Equal(wide(vias), before) {
				t.Errorf("layout %d: vias that were handed in have changed", i)
			}
		}
		if !layout.Same(big, was) {
			t.Errorf("layout %d, which was handed in, has changed", i)
		}
	}
}

// Neither another answer, nor another path of the same one, nor what comes later changes with a path of an answer; nor does an answer with what was handed in.
func TestAnswersShareNothing(t *testing.T) {
	for i, l := range []api.Layout{yard(), diamonds(5, 2), flanked(8, 0, 3, 1), line(1)} {
		for n, call := range []func() []api.Path{
			func() []api.Path { return ask(l, 0, 0) },
			func() []api.Path { return ask(l, 0, 0, 0) },
			func() []api.Path { all, _ := search.Of(l, api.Request{}); return all },
			func() []api.Path { return search.From(l, 0) },
		} {
			was, a, b := copied(call()), call(), call()
			if len(was) == 0 {
				t.Fatalf("layout %d, call %d: nothing", i, n)
			}
			for k := range a {
				if !samePaths(a[k:], was[k:]) {
					t.Errorf("layout %d, call %d: paths of one answer share memory", i, n)
				}
				spoil(a[k : k+1 : k+1])
			}
			spoil(a)
			if !samePaths(b, was) || !samePaths(call(), was) {
				t.Errorf("layout %d, call %d: answers share memory", i, n)
			}
		}
	}
	exits := search.Exits(yard(), 0)
	clear(wide(exits))
	if !slices.Equal(search.Exits(yard(), 0), []int{0, 3, 4, 5}) {
		t.Error("exits of answers share memory")
	}
	l := yard()
	all, from := ask(l, 0, 3), search.From(l, 0)
	was, wasFrom := copied(all), copied(from)
	clear(l.Sections)
	clear(l.Exits[3].Over)
	clear(l.Exits)
	if !samePaths(all, was) || !samePaths(from, wasFrom) {
		t.Error("what was handed in is kept")
	}
}

// copied are paths in memory of their own.
func copied(all []api.Path) []api.Path {
	var own []api.Path
	for _, p := range all {
		own = append(own, api.Path{Signal: p.Signal, Exit: p.Exit, Steps: slices.Clone(p.Steps)})
	}
	return own
}
