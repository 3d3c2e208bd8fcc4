package join_test

import (
	"math"
	"slices"
	"strconv"
	"testing"

	"lockbar/api"
	"lockbar/join"
)

// mostSections is the limit, written out here, so that a wrong one would be seen.
const mostSections = 24

// none is where the track ends.
func none() api.Port { return api.Port{S: -1, P: 0} }

// goings are the ends of a kind's ways, by the way's number, as chapter 5 writes them out.
func goings(kind uint8) [][2]int {
	switch kind {
	case 1:
		return [][2]int{{0, 1}}
	case 2:
		return [][2]int{{0, 1}, {0, 2}}
	case 3:
		return [][2]int{{0, 1}, {2, 3}}
	}
	return nil
}

// portsOf is how many ports a kind has.
func portsOf(kind uint8) int {
	switch kind {
	case 1:
		return 2
	case 2:
		return 3
	case 3:
		return 4
	}
	return 0
}

// numbers are such as lie at the edges, and far beyond them.
func numbers() []int {
	all := []int{math.MinInt, math.MinInt + 1, math.MinInt32, -256, 255, 256, math.MaxInt32, math.MaxUint32, 1 << 32, 1<<32 + 1, 1 << 62, math.MaxInt - 1, math.MaxInt}
	for n := -3; n < 42; n++ {
		all = append(all, n)
	}
	return all
}

// ends are numbers of ports, at the edges, and far beyond them.
func ends() []int {
	return []int{math.MinInt, math.MinInt32, -256, -2, -1, 0, 1, 2, 3, 4, 5, 255, 256, 1 << 32, 1<<32 + 1, 1 << 62, math.MaxInt}
}

// apart are so many sections of that kind that join to nothing.
func apart(kind uint8, sections int) api.Layout {
	var l api.Layout
	for range sections {
		l.Sections = append(l.Sections, api.Section{Kind: kind, Join: [4]api.Port{none(), none(), none(), none()}})
	}
	return l
}

// tie joins two ports, both ways about.
func tie(l api.Layout, a, b api.Port) {
	l.Sections[a.S].Join[a.P] = b
	l.Sections[b.S].Join[b.P] = a
}

// line are so many plain sections in a row: the port 1 of each joined to the port 0 of the next one.
func line(sections int) api.Layout {
	l := apart(1, sections)
	for n := 1; n < sections; n++ {
		tie(l, api.Port{S: n - 1, P: 1}, api.Port{S: n, P: 0})
	}
	return l
}

// yard is a layout with some of all: points 1 and 5, a crossing 2; 7 and 8 are joined at both ends, and apart from the others; 9 is alone.
func yard() api.Layout {
	l := apart(1, 10)
	l.Sections[1].Kind, l.Sections[5].Kind, l.Sections[2].Kind = 2, 2, 3
	for _, x := range [][2]api.Port{
		{{S: 0, P: 1}, {S: 1, P: 0}}, {{S: 1, P: 1}, {S: 2, P: 0}}, {{S: 1, P: 2}, {S: 6, P: 0}}, {{S: 2, P: 1}, {S: 3, P: 0}},
		{{S: 2, P: 2}, {S: 4, P: 1}}, {{S: 2, P: 3}, {S: 5, P: 2}}, {{S: 5, P: 1}, {S: 6, P: 1}},
		{{S: 7, P: 0}, {S: 8, P: 1}}, {{S: 7, P: 1}, {S: 8, P: 0}},
	} {
		tie(l, x[0], x[1])
	}
	for n := range l.Sections {
		l.Sections[n].Class[0] = n % 4
	}
	return l
}

// fullest is a ring of as many crossings as may be, each with all of its ports joined.
func fullest() api.Layout {
	l := apart(3, mostSections)
	for n := range l.Sections {
		next := (n + 1) % mostSections
		tie(l, api.Port{S: n, P: 1}, api.Port{S: next, P: 0})
		tie(l, api.Port{S: n, P: 3}, api.Port{S: next, P: 2})
		l.Sections[n].Class = [2]int{3, 3}
	}
	return l
}

// mixed is a layout of some sections of all kinds, joined at random by a rule of its own, so that it is the same each time.
func mixed(seed uint32) api.Layout {
	roll := func(n int) int {
		seed = seed*1664525 + 1013904223
		return int(seed>>16) % n
	}
	l := apart(1, 1+roll(mostSections))
	var open []api.Port
	for s := range l.Sections {
		l.Sections[s].Kind = uint8(1 + roll(3))
		for p := range portsOf(l.Sections[s].Kind) {
			open = append(open, api.Port{S: s, P: p})
		}
	}
	for range len(open) {
		a, b := open[roll(len(open))], open[roll(len(open))]
		if a.S != b.S && l.Sections[a.S].Join[a.P] == none() && l.Sections[b.S].Join[b.P] == none() && roll(3) > 0 {
			tie(l, a, b)
		}
	}
	return l
}

// goods are layouts whose sections are joined.
func goods() []api.Layout {
	all := []api.Layout{{}, {Sections: []api.Section{}}, yard(), fullest(), apart(1, 1), apart(2, mostSections), line(2), line(mostSections)}
	for seed := range uint32(60) {
		all = append(all, mixed(seed))
	}
	return all
}

// changed is a yard with something done to it.
func changed(change func(l *api.Layout)) api.Layout {
	l := yard()
	change(&l)
	return l
}

// bads are layouts whose sections are not joined, each for one reason.
func bads() []api.Layout {
	all := []api.Layout{apart(1, mostSections+1), line(mostSections + 1), apart(1, 40), {Sections: make([]api.Section, 1)}}
	for _, change := range []func(l *api.Layout){
		func(l *api.Layout) { l.Sections[9].Kind = 0 },
		func(l *api.Layout) { l.Sections[9].Kind = 4 },
		func(l *api.Layout) { l.Sections[1].Kind = 255 },
		func(l *api.Layout) { l.Sections[2].Kind = 1 },
		func(l *api.Layout) { l.Sections[9].Class[0] = 4 },
		func(l *api.Layout) { l.Sections[9].Class[0] = -1 },
		func(l *api.Layout) { l.Sections[9].Class[1] = 1 },
		func(l *api.Layout) { l.Sections[9].Join[2] = api.Port{} },
		func(l *api.Layout) { l.Sections[9].Join[3] = api.Port{S: 1, P: 0} },
		func(l *api.Layout) { l.Sections[9].Join[0] = api.Port{S: -1, P: 1} },
		func(l *api.Layout) { l.Sections[9].Join[0] = api.Port{S: -2, P: 0} },
		// A port that may be, but that the layout does not have.
		func(l *api.Layout) { l.Sections[9].Join[0] = api.Port{S: 10, P: 0} },
		func(l *api.Layout) { l.Sections[9].Join[0] = api.Port{S: 0, P: 2} },
		func(l *api.Layout) { l.Sections[9].Join[0] = api.Port{S: 5, P: 3} },
		func(l *api.Layout) { l.Sections = l.Sections[:6] },
		func(l *api.Layout) { l.Sections = l.Sections[:8] },
		// A port of the same section, the same port or another one, and come back from.
		func(l *api.Layout) { l.Sections[9].Join[0] = api.Port{S: 9, P: 0} },
		func(l *api.Layout) { l.Sections[9].Join[0] = api.Port{S: 9, P: 1} },
		func(l *api.Layout) { tie(*l, api.Port{S: 9, P: 0}, api.Port{S: 9, P: 1}) },
		func(l *api.Layout) { tie(*l, api.Port{S: 5, P: 0}, api.Port{S: 5, P: 0}) },
		// A port beyond which the track ends, or another one lies.
		func(l *api.Layout) { l.Sections[9].Join[0] = api.Port{S: 0, P: 0} },
		func(l *api.Layout) { l.Sections[9].Join[0] = api.Port{S: 0, P: 1} },
		func(l *api.Layout) { l.Sections[0].Join[1] = none() },
		func(l *api.Layout) { l.Sections[0].Join[1] = api.Port{S: 1, P: 1} },
		func(l *api.Layout) { l.Sections[7].Join = l.Sections[8].Join },
		// Come back from to the same section, by another port.
		func(l *api.Layout) {
			j := &l.Sections[7].Join
			j[0], j[1] = j[1], j[0]
		},
	} {
		all = append(all, changed(change))
	}
	return all
}

// odds are layouts that are still stranger: joins by wild numbers, sections of no kind that are joined to, ports that their kinds do not have.
func odds() []api.Layout {
	wild := yard()
	for n, x := range numbers() {
		wild.Sections[n%10].Join[n/10%4] = api.Port{S: x, P: numbers()[n*7%len(numbers())]}
	}
	lost := yard()
	lost.Sections[1].Kind, lost.Sections[2].Kind, lost.Sections[8].Kind = 0, 4, 255
	lost.Sections[0].Join = [4]api.Port{{S: 6, P: 7}, {S: 1, P: 0}, {S: 3, P: 0}, {S: 4, P: 0}}
	lost.Sections[6].Join[1] = api.Port{S: 3, P: math.MinInt}
	long := line(40)
	long.Sections[39].Join[1] = api.Port{S: 0, P: 0}
	same := apart(3, 5)
	for n := range same.Sections {
		same.Sections[n].Join = [4]api.Port{{S: 3, P: 2}, {S: 3, P: 2}, {S: 1, P: 0}, {S: n, P: 1}}
	}
	return []api.Layout{wild, lost, long, same, {Sections: make([]api.Section, 3)}}
}

// anys are all of them.
func anys() []api.Layout {
	return slices.Concat(goods(), bads(), odds())
}

// The reference: the chapter's words, by other means than the package's.

// had are the ports of a layout, rising.
func had(l api.Layout) []api.Port {
	var all []api.Port
	for s, x := range l.Sections {
		for n := range portsOf(x.Kind) {
			all = append(all, api.Port{S: s, P: n})
		}
	}
	return all
}

// beyonds is what lies beyond each port that a layout has.
func beyonds(l api.Layout) map[api.Port]api.Port {
	all := map[api.Port]api.Port{}
	for _, p := range had(l) {
		all[p] = l.Sections[p.S].Join[p.P]
	}
	return all
}

// may tells whether a section may be, looked at by itself.
func may(s api.Section) bool {
	is := portsOf(s.Kind) > 0
	for n, p := range s.Join {
		inside := p.S >= 0 && p.S <= 23 && p.P >= 0 && p.P <= 3
		is = is && (p == none() || inside && n < portsOf(s.Kind))
	}
	for n, c := range s.Class {
		is = is && (c == 0 || c >= 1 && c <= 3 && n < len(goings(s.Kind)))
	}
	return is
}

// joined tells whether a layout's sections are joined.
func joined(l api.Layout) bool {
	is := len(l.Sections) <= mostSections
	for _, s := range l.Sections {
		is = is && may(s)
	}
	beyond := beyonds(l)
	for p, q := range beyond {
		back, has := beyond[q]
		is = is && (q == none() || has && q.S != p.S && back == p)
	}
	return is
}

// entered are the steps of a layout by the port that they enter by, rising by the one that they leave by.
func entered(l api.Layout) map[api.Port][]api.Step {
	all := map[api.Port][]api.Step{}
	for s, x := range l.Sections {
		for out := range 4 {
			for _, e := range goings(x.Kind) {
				if e[0] == out || e[1] == out {
					in := e[0] + e[1] - out
					all[api.Port{S: s, P: in}] = append(all[api.Port{S: s, P: in}], api.Step{S: s, In: in, Out: out})
				}
			}
		}
	}
	return all
}

// nears are, of each of a layout's sections, those near it.
func nears(l api.Layout) [][]int {
	all, beyond := make([][]int, len(l.Sections)), beyonds(l)
	for s := range l.Sections {
		for n := range l.Sections {
			is := false
			for p := range 4 {
				q, has := beyond[api.Port{S: s, P: p}]
				is = is || has && q.S == n && n != s
			}
			if is {
				all[s] = append(all[s], n)
			}
		}
	}
	return all
}

// reached are, of each of a layout's sections, those that hang together with it: as often as there are sections, those by way of each of them are added.
func reached(l api.Layout) [][]int {
	in := make([][]bool, len(l.Sections))
	for s, near := range nears(l) {
		in[s] = make([]bool, len(l.Sections))
		for n := range l.Sections {
			in[s][n] = n == s || slices.Contains(near, n)
		}
	}
	for by := range l.Sections {
		for s := range l.Sections {
			for n := range l.Sections {
				in[s][n] = in[s][n] || in[s][by] && in[by][n]
			}
		}
	}
	all := make([][]int, len(l.Sections))
	for s := range in {
		for n, is := range in[s] {
			if is {
				all[s] = append(all[s], n)
			}
		}
	}
	return all
}

// of is what there is of a section; nothing, if the layout does not have it.
func of(all [][]int, s int) []int {
	if s < 0 || s >= len(all) {
		return nil
	}
	return all[s]
}

// P7.1

func TestLimitIsThatOfTheApi(t *testing.T) {
	if api.MaxSections != mostSections {
		t.Error("another limit")
	}
}

func TestExample(t *testing.T) {
	l := line(2)
	if got := join.Beyond(l, api.Port{S: 0, P: 1}); got != (api.Port{S: 1, P: 0}) {
		t.Errorf("beyond 0's 1: %v", got)
	}
	if got := join.Beyond(l, api.Port{S: 1, P: 1}); got != none() {
		t.Errorf("beyond 1's 1: %v", got)
	}
}

func TestHasAndBeyond(t *testing.T) {
	for i, l := range anys() {
		beyond := beyonds(l)
		for _, s := range numbers() {
			for _, n := range ends() {
				p := api.Port{S: s, P: n}
				want, has := beyond[p]
				if !has {
					want = none()
				}
				if got := join.Has(l, p); got != has {
					t.Errorf("layout %d: Has(%v) is %v", i, p, got)
				}
				if got := join.Beyond(l, p); got != want {
					t.Errorf("layout %d: Beyond(%v) is %v, want %v", i, p, got, want)
				}
			}
		}
	}
}

func TestHasByHand(t *testing.T) {
	l := yard()
	for _, p := range []api.Port{{S: 0, P: 0}, {S: 0, P: 1}, {S: 1, P: 2}, {S: 2, P: 3}, {S: 9, P: 1}} {
		if !join.Has(l, p) {
			t.Errorf("the yard has %v", p)
		}
	}
	for _, p := range []api.Port{none(), {S: 0, P: 2}, {S: 0, P: -1}, {S: 1, P: 3}, {S: 2, P: 4}, {S: 10, P: 0}, {S: -2, P: 0}, {S: math.MaxInt, P: 0}, {S: 0, P: math.MinInt}} {
		if join.Has(l, p) {
			t.Errorf("the yard does not have %v", p)
		}
	}
	// Nor has a section of no kind a port, or one that is not there.
	for _, kind := range []uint8{0, 4, 255} {
		if join.Has(apart(kind, 1), api.Port{}) {
			t.Errorf("a section of the kind %d has a port", kind)
		}
	}
	if join.Has(api.Layout{}, api.Port{}) {
		t.Error("nothing has a port")
	}
}

// What a Join tells is told as it is, be it none of the layout's; but not of a port that the section does not have.
func TestBeyondTellsWhatJoinTells(t *testing.T) {
	for _, q := range []api.Port{{S: -7, P: 9}, {S: -1, P: 2}, {S: 0, P: 0}, {S: 23, P: 3}, {S: math.MaxInt, P: math.MinInt}} {
		l := apart(2, 2)
		l.Sections[1].Join = [4]api.Port{q, q, q, q}
		for n := range 3 {
			if got := join.Beyond(l, api.Port{S: 1, P: n}); got != q {
				t.Errorf("beyond %d: %v, want %v", n, got, q)
			}
		}
		for _, p := range []api.Port{{S: 1, P: 3}, {S: 1, P: -1}, {S: 1, P: 4}, {S: 2, P: 0}, none()} {
			if got := join.Beyond(l, p); got != none() {
				t.Errorf("beyond %v: %v", p, got)
			}
		}
	}
}

func TestJoined(t *testing.T) {
	for i, l := range goods() {
		if !join.Joined(l) || !joined(l) {
			t.Errorf("good %d: not joined", i)
		}
	}
	for i, l := range append(bads(), odds()...) {
		if join.Joined(l) || joined(l) {
			t.Errorf("bad %d: joined", i)
		}
	}
}

func TestJoinedByHowMany(t *testing.T) {
	for n := range 40 {
		for i, l := range []api.Layout{apart(1, n), apart(2, n), apart(3, n), line(n)} {
			if got := join.Joined(l); got != (n <= mostSections) {
				t.Errorf("%d sections, %d: Joined is %v", n, i, got)
			}
		}
	}
}

// Sections are looked at, nothing else of the layout.
func TestJoinedGoesBySectionsAlone(t *testing.T) {
	l := yard()
	l.Signals, l.Exits, l.Flanks = make([]api.Signal, 99), make([]api.Exit, 99), []api.Flank{{S: -4}}
	l.Exits[0] = api.Exit{At: none(), Over: make([]api.Step, 9)}
	l.Times = api.Times{Clear: -1, Link: math.MaxInt}
	if !join.Joined(l) {
		t.Error("the yard's sections are joined")
	}
}

func TestJoinedByOneNumber(t *testing.T) {
	for name, lay := range map[string]func() api.Layout{"yard": yard, "fullest": fullest} {
		for s := range lay().Sections {
			for place := range 10 {
				for _, n := range numbers() {
					l := lay()
					x := &l.Sections[s]
					*[]*int{&x.Join[0].S, &x.Join[0].P, &x.Join[1].S, &x.Join[1].P, &x.Join[2].S, &x.Join[2].P, &x.Join[3].S, &x.Join[3].P, &x.Class[0], &x.Class[1]}[place] = n
					if got := join.Joined(l); got != joined(l) {
						t.Errorf("%s, section %d, place %d is %d: Joined is %v", name, s, place, n, got)
					}
				}
			}
			for kind := range 256 {
				l := lay()
				l.Sections[s].Kind = uint8(kind)
				if got := join.Joined(l); got != joined(l) {
					t.Errorf("%s, section %d of the kind %d: Joined is %v", name, s, kind, got)
				}
			}
		}
	}
}

// Each two ports of some sections of all kinds, joined one way about, or both: joined only both ways about, by two sections.
func TestJoinedByPairs(t *testing.T) {
	lay := func() api.Layout {
		l := apart(1, 4)
		l.Sections[1].Kind, l.Sections[2].Kind = 2, 3
		return l
	}
	for _, a := range had(lay()) {
		for _, b := range had(lay()) {
			l := lay()
			l.Sections[a.S].Join[a.P] = b
			if join.Joined(l) {
				t.Errorf("%v, joined to %v one way about", a, b)
			}
			tie(l, a, b)
			if got := join.Joined(l); got != (a.S != b.S) {
				t.Errorf("%v and %v: Joined is %v", a, b, got)
			}
		}
	}
}

// P7.2

func TestSteps(t *testing.T) {
	for i, l := range anys() {
		beyond, steps := beyonds(l), entered(l)
		for _, s := range numbers() {
			for _, n := range ends() {
				p := api.Port{S: s, P: n}
				var want []api.Step
				if q, has := beyond[p]; has {
					want = steps[q]
				}
				if got := join.Steps(l, p); !slices.Equal(got, want) {
					t.Errorf("layout %d: Steps(%v) is %v, want %v", i, p, got, want)
				}
			}
		}
	}
}

func TestStepsByHand(t *testing.T) {
	l := yard()
	l.Sections[9].Join[0] = api.Port{S: 1, P: 3}
	l.Sections[9].Join[1] = api.Port{S: 10, P: 0}
	for p, want := range map[api.Port][]api.Step{
		{S: 0, P: 1}:           {{S: 1, In: 0, Out: 1}, {S: 1, In: 0, Out: 2}},
		{S: 2, P: 0}:           {{S: 1, In: 1, Out: 0}},
		{S: 6, P: 0}:           {{S: 1, In: 2, Out: 0}},
		{S: 4, P: 1}:           {{S: 2, In: 2, Out: 3}},
		{S: 5, P: 2}:           {{S: 2, In: 3, Out: 2}},
		{S: 1, P: 0}:           {{S: 0, In: 1, Out: 0}},
		{S: 7, P: 1}:           {{S: 8, In: 0, Out: 1}},
		{S: 0, P: 0}:           nil,
		{S: 5, P: 0}:           nil,
		{S: 9, P: 0}:           nil,
		{S: 9, P: 1}:           nil,
		{S: 0, P: 2}:           nil,
		{S: 10, P: 0}:          nil,
		{S: -1, P: 0}:          nil,
		{S: 0, P: math.MinInt}: nil,
	} {
		if got := join.Steps(l, p); !slices.Equal(got, want) {
			t.Errorf("Steps(%v) is %v, want %v", p, got, want)
		}
	}
}

// P7.3

func TestNearAndAll(t *testing.T) {
	for i, l := range anys() {
		near, all := nears(l), reached(l)
		for _, s := range numbers() {
			if got, want := join.Near(l, s), of(near, s); !slices.Equal(got, want) {
				t.Errorf("layout %d: Near(%d) is %v, want %v", i, s, got, want)
			}
			if got, want := join.All(l, s), of(all, s); !slices.Equal(got, want) {
				t.Errorf("layout %d: All(%d) is %v, want %v", i, s, got, want)
			}
		}
	}
}

func TestNearByHand(t *testing.T) {
	for s, want := range map[int][]int{0: {1}, 1: {0, 2, 6}, 2: {1, 3, 4, 5}, 3: {2}, 4: {2}, 5: {2, 6}, 6: {1, 5}, 7: {8}, 8: {7}, 9: nil, 10: nil, -1: nil, math.MaxInt: nil, math.MinInt: nil} {
		if got := join.Near(yard(), s); !slices.Equal(got, want) {
			t.Errorf("Near(%d) is %v, want %v", s, got, want)
		}
	}
	if got := join.Near(fullest(), 0); !slices.Equal(got, []int{1, 23}) {
		t.Errorf("in the ring near 0: %v", got)
	}
}

func TestAllByHand(t *testing.T) {
	track := []int{0, 1, 2, 3, 4, 5, 6}
	for s, want := range map[int][]int{0: track, 1: track, 2: track, 3: track, 4: track, 5: track, 6: track, 7: {7, 8}, 8: {7, 8}, 9: {9}, 10: nil, -1: nil, math.MaxInt: nil, math.MinInt: nil} {
		if got := join.All(yard(), s); !slices.Equal(got, want) {
			t.Errorf("All(%d) is %v, want %v", s, got, want)
		}
	}
	if len(join.All(api.Layout{}, 0)) != 0 || len(join.Near(api.Layout{}, 0)) != 0 {
		t.Error("nothing has sections")
	}
}

// What is near goes by the number of the section beyond alone: it is one of the layout's, be it of no kind, or without the port that is joined to. And it goes the one way about that Join tells.
func TestNearWhereSectionsAreNotJoined(t *testing.T) {
	l := apart(1, 5)
	l.Sections[0].Join = [4]api.Port{{S: 2, P: 9}, {S: 1, P: -1}, {S: 3, P: 0}, {S: 3, P: 1}}
	l.Sections[2].Kind = 0
	l.Sections[1].Join[0] = api.Port{S: 4, P: 0}
	l.Sections[1].Join[1] = api.Port{S: 5, P: 0}
	l.Sections[4].Join[1] = api.Port{S: 4, P: 1}
	for s, want := range [][2][]int{{{1, 2}, {0, 1, 2, 4}}, {{4}, {1, 4}}, {nil, {2}}, {nil, {3}}, {nil, {4}}, {nil, nil}} {
		if got := join.Near(l, s); !slices.Equal(got, want[0]) {
			t.Errorf("Near(%d) is %v, want %v", s, got, want[0])
		}
		if got := join.All(l, s); !slices.Equal(got, want[1]) {
			t.Errorf("All(%d) is %v, want %v", s, got, want[1])
		}
	}
}

// P7.4

func TestBeyondWhatLiesBeyond(t *testing.T) {
	on := 0
	for i, l := range goods() {
		for _, p := range had(l) {
			q := join.Beyond(l, p)
			if q == none() {
				continue
			}
			on++
			if !join.Has(l, q) || q.S == p.S || join.Beyond(l, q) != p {
				t.Errorf("layout %d: beyond %v lies %v, beyond that %v", i, p, q, join.Beyond(l, q))
			}
		}
	}
	if on < 200 {
		t.Errorf("only %d ports are joined", on)
	}
}

func TestWhoIsNearIsNearBy(t *testing.T) {
	for i, l := range goods() {
		for s := range l.Sections {
			for _, n := range join.Near(l, s) {
				if !slices.Contains(join.Near(l, n), s) {
					t.Errorf("layout %d: %d is near %d, but not the other way about", i, n, s)
				}
			}
			for _, n := range join.All(l, s) {
				if !slices.Equal(join.All(l, n), join.All(l, s)) {
					t.Errorf("layout %d: %d and %d hang together with others", i, s, n)
				}
			}
		}
	}
}

func TestAStepLeavesByAnotherPort(t *testing.T) {
	seen := 0
	for i, l := range anys() {
		for _, p := range had(l) {
			for _, s := range join.Steps(l, p) {
				seen++
				out := api.Port{S: s.S, P: s.Out}
				if s.In == s.Out || (api.Port{S: s.S, P: s.In}) != join.Beyond(l, p) || !join.Has(l, out) {
					t.Errorf("layout %d: from %v the step %v", i, p, s)
				}
			}
		}
	}
	if seen < 200 {
		t.Errorf("only %d steps", seen)
	}
}

// R1, R3, R4 (R1's wrong numbers: all of the above; R2: no call answers an error)

func TestLongListsEnd(t *testing.T) {
	const sections = 200000
	l := line(sections)
	tie(l, api.Port{S: 0, P: 0}, api.Port{S: sections - 1, P: 1})
	if join.Joined(l) || !join.Has(l, api.Port{S: sections - 1, P: 1}) || join.Has(l, api.Port{S: sections, P: 0}) {
		t.Error("a long line")
	}
	if got := join.Near(l, 0); !slices.Equal(got, []int{1, sections - 1}) {
		t.Errorf("near 0: %v", got)
	}
	if got := join.Steps(l, api.Port{S: 0, P: 0}); !slices.Equal(got, []api.Step{{S: sections - 1, In: 1, Out: 0}}) {
		t.Errorf("steps on from the beginning: %v", got)
	}
	all := join.All(l, sections/2)
	if len(all) != sections || all[0] != 0 || all[sections-1] != sections-1 || !slices.IsSorted(all) {
		t.Errorf("%d sections hang together", len(all))
	}
}

func TestNilIsEmpty(t *testing.T) {
	for _, l := range []api.Layout{{}, {Sections: []api.Section{}}, {Sections: make([]api.Section, 0, 9)}} {
		p := api.Port{}
		if !join.Joined(l) || join.Has(l, p) || join.Beyond(l, p) != none() || len(join.Steps(l, p))+len(join.Near(l, 0))+len(join.All(l, 0)) != 0 {
			t.Error("a layout of no sections has something")
		}
	}
}

// tell is what all calls tell of the yard, by numbers.
func tell() string {
	l, p := yard(), api.Port{S: 0, P: 1}
	text := strconv.FormatBool(join.Has(l, p)) + strconv.FormatBool(join.Joined(l))
	for _, n := range slices.Concat([]int{join.Beyond(l, p).S, join.Beyond(l, p).P}, join.Near(l, 2), join.All(l, 8)) {
		text += " " + strconv.Itoa(n)
	}
	for _, s := range join.Steps(l, p) {
		text += " " + strconv.Itoa(s.S) + strconv.Itoa(s.In) + strconv.Itoa(s.Out)
	}
	return text
}

func TestAnswersHangOnTheirArgumentsAlone(t *testing.T) {
	was := tell()
	if was != "truetrue 1 0 1 3 4 5 7 8 101 102" {
		t.Errorf("got %s", was)
	}
	for i, l := range anys() {
		p := api.Port{S: i % 10, P: 1}
		join.Has(l, p)
		join.Beyond(l, p)
		join.Steps(l, p)
		join.Joined(l)
		join.Near(l, i)
		join.All(l, i)
		if now := tell(); now != was {
			t.Fatalf("behind calls by %d: %s, then %s", i, was, now)
		}
	}
}

func TestArgumentsStay(t *testing.T) {
	for i, l := range anys() {
		l.Sections = append(l.Sections, make([]api.Section, 9)...)[:len(l.Sections)]
		wide := l.Sections[:cap(l.Sections)]
		was := slices.Clone(wide)
		for s := -1; s <= len(l.Sections); s++ {
			join.Joined(l)
			join.Near(l, s)
			join.All(l, s)
			for n := -1; n < 5; n++ {
				join.Has(l, api.Port{S: s, P: n})
				join.Beyond(l, api.Port{S: s, P: n})
				join.Steps(l, api.Port{S: s, P: n})
			}
		}
		if !slices.Equal(wide, was) {
			t.Errorf("layout %d, which was handed in, has changed", i)
		}
	}
}

// wantApart tells of two answers of which one is written over by what is done to the other.
func wantApart[T comparable](t *testing.T, what string, ask func() []T, other T) {
	t.Helper()
	was := slices.Clone(ask())
	a, b := ask(), ask()
	a = a[:cap(a)]
	for i := range a {
		a[i] = other
	}
	if !slices.Equal(b, was) || !slices.Equal(ask(), was) || len(was) == 0 {
		t.Errorf("%s: %v, then %v, %v", what, was, b, ask())
	}
}

func TestAnswersShareNothing(t *testing.T) {
	l := yard()
	wantApart(t, "Steps", func() []api.Step { return join.Steps(l, api.Port{S: 0, P: 1}) }, api.Step{S: 77, In: 7, Out: 7})
	wantApart(t, "Near", func() []int { return join.Near(l, 2) }, 77)
	wantApart(t, "All", func() []int { return join.All(l, 2) }, 77)
	if !slices.Equal(l.Sections, yard().Sections) {
		t.Error("an answer shares memory with what was handed in")
	}
}
