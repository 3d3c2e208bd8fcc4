package layout_test

import (
	"math"
	"strconv"
	"testing"

	"lockbar/api"
	"lockbar/layout"
)

// The limits are written out here, so that a wrong one would be seen.
const (
	mostSections = 24
	mostSignals  = 12
	mostExits    = 12
	mostFlanks   = 16
	mostOver     = 2
	mostTime     = 1000
)

// none is where the track ends.
func none() api.Port { return api.Port{S: -1, P: 0} }

// goings are the ends of a kind's ways, by the way's number, as chapter 5 writes them out.
func goings(kind uint8) [][2]int {
	switch kind {
	case 1:
		return [][2]int{{0, 1}}
	case 2:
		return [][2]int{{0, 1}, {0, 2}}
	case 3:
		return [][2]int{{0, 1}, {2, 3}}
	}
	return nil
}

// portsOf is how many ports a kind has.
func portsOf(kind uint8) int {
	switch kind {
	case 1:
		return 2
	case 2:
		return 3
	case 3:
		return 4
	}
	return 0
}

// numbers are such as lie at the edges, and far beyond them.
func numbers() []int {
	all := []int{math.MinInt, math.MinInt + 1, math.MinInt32, -256, math.MaxInt32, math.MaxUint32, 1 << 32, 1<<32 + 1, 1 << 62, math.MaxInt - 1, math.MaxInt}
	for n := -3; n < 28; n++ {
		all = append(all, n)
	}
	for _, mid := range []int{256, mostTime, 65536} {
		all = append(all, mid-1, mid, mid+1)
	}
	return all
}

// yard is a layout that has some of all: plain sections 0, 3, 4, 6, points 1 and 5, a crossing 2; signals at both ends, exits with overlaps of no, one, two steps; flanks each way about.
func yard() api.Layout {
	return api.Layout{
		Sections: []api.Section{
			{Kind: 1, Join: [4]api.Port{none(), {S: 1, P: 0}, none(), none()}, Class: [2]int{1, 0}},
			{Kind: 2, Join: [4]api.Port{{S: 0, P: 1}, {S: 2, P: 0}, {S: 6, P: 0}, none()}, Class: [2]int{0, 3}},
			{Kind: 3, Join: [4]api.Port{{S: 1, P: 1}, {S: 3, P: 0}, {S: 4, P: 1}, {S: 5, P: 2}}, Class: [2]int{2, 1}},
			{Kind: 1, Join: [4]api.Port{{S: 2, P: 1}, none(), none(), none()}},
			{Kind: 1, Join: [4]api.Port{none(), {S: 2, P: 2}, none(), none()}, Class: [2]int{3, 0}},
			{Kind: 2, Join: [4]api.Port{none(), {S: 6, P: 1}, {S: 2, P: 3}, none()}, Class: [2]int{1, 2}},
			{Kind: 1, Join: [4]api.Port{{S: 1, P: 2}, {S: 5, P: 1}, none(), none()}},
		},
		Signals: []api.Signal{{At: api.Port{S: 0, P: 0}}, {At: api.Port{S: 4, P: 0}}, {At: api.Port{S: 5, P: 0}}},
		Exits: []api.Exit{
			{At: api.Port{S: 3, P: 1}},
			{At: api.Port{S: 1, P: 1}, Over: []api.Step{{S: 2, In: 0, Out: 1}}},
			{At: api.Port{S: 1, P: 2}, Over: []api.Step{{S: 6, In: 0, Out: 1}, {S: 5, In: 1, Out: 0}}},
		},
		Flanks: []api.Flank{{S: 1, Way: 1, Point: 5, Pos: 0}, {S: 2, Way: 1, Point: 1, Pos: 1}, {S: 0, Way: 0, Point: 1, Pos: 0}},
		Times:  api.Times{Clear: 1, Drive: 3, Stale: 5, Approach: 20, Over: 1000, Press: 9, Link: 7},
	}
}

// bare is a layout of nothing, its times at their least.
func bare() api.Layout {
	return api.Layout{Times: api.Times{Clear: 1, Drive: 1, Stale: 1, Approach: 1, Over: 1, Press: 1, Link: 1}}
}

// fullest is a layout that has of all as many as may be, its numbers at their edges.
func fullest() api.Layout {
	l := api.Layout{Times: api.Times{Clear: 1000, Drive: 1000, Stale: 1000, Approach: 1000, Over: 1000, Press: 1000, Link: 1000}}
	for n := range mostSections {
		s := api.Section{Kind: 3, Join: [4]api.Port{{S: 23, P: 3}, {S: 0, P: 0}, {S: 23, P: 0}, {S: 0, P: 2}}, Class: [2]int{3, 3}}
		if n == 22 || n == 1 {
			s = api.Section{Kind: 2, Join: [4]api.Port{{S: 23, P: 3}, {S: 22, P: 2}, {S: 0, P: 3}, none()}, Class: [2]int{3, 3}}
		}
		l.Sections = append(l.Sections, s)
	}
	for range mostSignals {
		l.Signals = append(l.Signals, api.Signal{At: api.Port{S: 23, P: 3}})
	}
	for range mostExits {
		l.Exits = append(l.Exits, api.Exit{At: api.Port{S: 23, P: 0}, Over: []api.Step{{S: 23, In: 3, Out: 2}, {S: 22, In: 2, Out: 0}}})
	}
	for range mostFlanks {
		l.Flanks = append(l.Flanks, api.Flank{S: 23, Way: 1, Point: 22, Pos: 1})
	}
	return l
}

// stretch is a layout of so many plain sections that join to nothing, and nothing else.
func stretch(sections int) api.Layout {
	l := bare()
	for range sections {
		l.Sections = append(l.Sections, api.Section{Kind: 1, Join: [4]api.Port{none(), none(), none(), none()}})
	}
	return l
}

// place is where one of a layout's numbers stands.
type place struct {
	what string
	at   *int
}

// places are those of all numbers of a layout, but the kinds of sections.
func places(l *api.Layout) []place {
	var all []place
	add := func(what string, n int, at ...*int) {
		for i, a := range at {
			all = append(all, place{what + " " + strconv.Itoa(n) + ", number " + strconv.Itoa(i), a})
		}
	}
	for n := range l.Sections {
		s := &l.Sections[n]
		for i := range s.Join {
			add("join", n*10+i, &s.Join[i].S, &s.Join[i].P)
		}
		add("class", n, &s.Class[0], &s.Class[1])
	}
	for n := range l.Signals {
		add("signal", n, &l.Signals[n].At.S, &l.Signals[n].At.P)
	}
	for n := range l.Exits {
		x := &l.Exits[n]
		add("exit", n, &x.At.S, &x.At.P)
		for i := range x.Over {
			add("overlap", n*10+i, &x.Over[i].S, &x.Over[i].In, &x.Over[i].Out)
		}
	}
	for n := range l.Flanks {
		f := &l.Flanks[n]
		add("flank", n, &f.S, &f.Way, &f.Point, &f.Pos)
	}
	t := &l.Times
	add("times", 0, &t.Clear, &t.Drive, &t.Stale, &t.Approach, &t.Over, &t.Press, &t.Link)
	return all
}

// The reference: the chapter's words, by other means than the package's.

// hasPort tells whether a port is there.
func hasPort(l api.Layout, p api.Port) bool {
	for s, x := range l.Sections {
		for n := range portsOf(x.Kind) {
			if (api.Port{S: s, P: n}) == p {
				return true
			}
		}
	}
	return false
}

// wayOf is the way by which a step goes, if it is there.
func wayOf(l api.Layout, step api.Step) (int, bool) {
	for s, x := range l.Sections {
		for way, e := range goings(x.Kind) {
			if step == (api.Step{S: s, In: e[0], Out: e[1]}) || step == (api.Step{S: s, In: e[1], Out: e[0]}) {
				return way, true
			}
		}
	}
	return 0, false
}

// sectionMay tells whether a section's numbers, and the ports to which it joins, may be.
func sectionMay(l api.Layout, s api.Section) bool {
	ports := portsOf(s.Kind)
	if ports == 0 {
		return false
	}
	for n, p := range s.Join {
		if p != none() && (n >= ports || !hasPort(l, p)) {
			return false
		}
	}
	for n, c := range s.Class {
		if c < 0 || c > 3 || n >= len(goings(s.Kind)) && c != 0 {
			return false
		}
	}
	return true
}

// flankMay tells whether a flank's numbers may be.
func flankMay(l api.Layout, f api.Flank) bool {
	return f.S >= 0 && f.S < len(l.Sections) && f.Way >= 0 && f.Way < len(goings(l.Sections[f.S].Kind)) &&
		f.Point >= 0 && f.Point < len(l.Sections) && l.Sections[f.Point].Kind == 2 && f.Point != f.S &&
		(f.Pos == 0 || f.Pos == 1)
}

// may tells whether a layout's numbers may be.
func may(l api.Layout) bool {
	is := len(l.Sections) <= mostSections && len(l.Signals) <= mostSignals && len(l.Exits) <= mostExits && len(l.Flanks) <= mostFlanks
	t := l.Times
	for _, n := range []int{t.Clear, t.Drive, t.Stale, t.Approach, t.Over, t.Press, t.Link} {
		is = is && 1 <= n && n <= mostTime
	}
	for _, s := range l.Sections {
		is = is && sectionMay(l, s)
	}
	for _, s := range l.Signals {
		is = is && hasPort(l, s.At)
	}
	for _, x := range l.Exits {
		is = is && hasPort(l, x.At) && len(x.Over) <= mostOver
		for _, s := range x.Over {
			_, ok := wayOf(l, s)
			is = is && ok
		}
	}
	for _, f := range l.Flanks {
		is = is && flankMay(l, f)
	}
	return is
}

// wantRight tells of a layout of which Right answers otherwise.
func wantRight(t *testing.T, what string, l api.Layout, want bool) {
	t.Helper()
	if got := layout.Right(l); got != want {
		t.Errorf("%s: Right is %v", what, got)
	}
}

// P6.1: Right

func TestLimitsAreThoseOfTheApi(t *testing.T) {
	if api.MaxSections != mostSections || api.MaxSignals != mostSignals || api.MaxExits != mostExits || api.MaxFlanks != mostFlanks || api.MaxOver != mostOver || api.MaxTime != mostTime {
		t.Error("other limits")
	}
}

func TestExamples(t *testing.T) {
	wantRight(t, "no sections, nothing, all times 1", bare(), true)
	l := bare()
	l.Signals = []api.Signal{{At: api.Port{S: 0, P: 0}}}
	wantRight(t, "the same, a signal at {0, 0}", l, false)
}

func TestRightLayouts(t *testing.T) {
	wantRight(t, "yard", yard(), true)
	wantRight(t, "fullest", fullest(), true)
	wantRight(t, "stretch of one", stretch(1), true)
	wantRight(t, "nothing, all times 0", api.Layout{}, false)
}

// A section may join to itself, and need not be joined from there: that is for chapters 7 and 9 to ask.
func TestRightAsksForNumbersAlone(t *testing.T) {
	l := stretch(2)
	l.Sections[0].Join[0] = api.Port{S: 0, P: 0}
	wantRight(t, "joined to itself", l, true)
	l.Sections[0].Join[0] = api.Port{S: 1, P: 1}
	wantRight(t, "joined one way about", l, true)
	l = yard()
	l.Signals = append(l.Signals, l.Signals[0], l.Signals[0])
	l.Exits = append(l.Exits, l.Exits[2])
	l.Flanks = append(l.Flanks, l.Flanks[0])
	wantRight(t, "twice the same", l, true)
}

func TestRightLimits(t *testing.T) {
	for n := range 40 {
		wantRight(t, strconv.Itoa(n)+" sections", stretch(n), n <= mostSections)
		signals, exits, flanks, over := yard(), yard(), yard(), yard()
		signals.Signals, exits.Exits, flanks.Flanks = nil, nil, nil
		over.Exits[2].Over = nil
		for range n {
			signals.Signals = append(signals.Signals, yard().Signals[1])
			exits.Exits = append(exits.Exits, yard().Exits[1])
			flanks.Flanks = append(flanks.Flanks, yard().Flanks[1])
			over.Exits[2].Over = append(over.Exits[2].Over, api.Step{S: 6, In: 0, Out: 1})
		}
		wantRight(t, strconv.Itoa(n)+" signals", signals, n <= mostSignals)
		wantRight(t, strconv.Itoa(n)+" exits", exits, n <= mostExits)
		wantRight(t, strconv.Itoa(n)+" flanks", flanks, n <= mostFlanks)
		wantRight(t, strconv.Itoa(n)+" steps over", over, n <= mostOver)
	}
	full := fullest()
	full.Sections = append(full.Sections, full.Sections[0])
	wantRight(t, "fullest and a section", full, false)
}

func TestRightKinds(t *testing.T) {
	for kind := range 256 {
		l := stretch(1)
		l.Sections[0].Kind = uint8(kind)
		wantRight(t, "the kind "+strconv.Itoa(kind), l, kind >= 1 && kind <= 3)
		for n := range yard().Sections {
			l := yard()
			l.Sections[n].Kind = uint8(kind)
			wantRight(t, "yard, the kind "+strconv.Itoa(kind)+" at "+strconv.Itoa(n), l, may(l))
		}
	}
}

func TestRightByOneNumber(t *testing.T) {
	for name, lay := range map[string]func() api.Layout{"yard": yard, "fullest": fullest, "bare": bare} {
		for i := range places(ownPlaces(lay)) {
			for _, n := range numbers() {
				l := lay()
				p := places(&l)[i]
				*p.at = n
				if got := layout.Right(l); got != may(l) {
					t.Errorf("%s, %s is %d: Right is %v", name, p.what, n, got)
				}
			}
		}
	}
}

// ownPlaces is a layout to count the places of.
func ownPlaces(lay func() api.Layout) *api.Layout {
	l := lay()
	return &l
}

func TestRightTimes(t *testing.T) {
	for i := range 7 {
		for _, n := range numbers() {
			l := bare()
			p := places(&l)[i]
			*p.at = n
			wantRight(t, p.what+" is "+strconv.Itoa(n), l, n >= 1 && n <= 1000)
		}
	}
}

func TestRightByHand(t *testing.T) {
	for i, bad := range []func(l *api.Layout){
		func(l *api.Layout) { l.Sections[0].Join[1] = api.Port{S: 7, P: 0} },
		func(l *api.Layout) { l.Sections[0].Join[1] = api.Port{S: 1, P: 3} },
		func(l *api.Layout) { l.Sections[0].Join[1] = api.Port{S: 3, P: 2} },
		func(l *api.Layout) { l.Sections[0].Join[2] = api.Port{S: 1, P: 0} },
		func(l *api.Layout) { l.Sections[0].Join[0] = api.Port{S: -1, P: 1} },
		func(l *api.Layout) { l.Sections[0].Class[1] = 1 },
		func(l *api.Layout) { l.Sections[2].Class[1] = 4 },
		func(l *api.Layout) { l.Sections = l.Sections[:6] },
		func(l *api.Layout) { l.Signals[2].At = none() },
		func(l *api.Layout) { l.Signals[2].At = api.Port{S: 5, P: 3} },
		func(l *api.Layout) { l.Exits[0].At = none() },
		func(l *api.Layout) { l.Exits[0].At = api.Port{S: 3, P: 2} },
		func(l *api.Layout) { l.Exits[2].Over[1] = api.Step{S: 5, In: 1, Out: 2} },
		func(l *api.Layout) { l.Exits[2].Over[1] = api.Step{S: 5, In: 1, Out: 1} },
		func(l *api.Layout) { l.Exits[1].Over[0] = api.Step{S: 7, In: 0, Out: 1} },
		func(l *api.Layout) { l.Flanks[0] = api.Flank{S: 1, Way: 1, Point: 1, Pos: 0} },
		func(l *api.Layout) { l.Flanks[0] = api.Flank{S: 1, Way: 1, Point: 2, Pos: 0} },
		func(l *api.Layout) { l.Flanks[0] = api.Flank{S: 1, Way: 2, Point: 5, Pos: 0} },
		func(l *api.Layout) { l.Flanks[0] = api.Flank{S: 0, Way: 1, Point: 5, Pos: 0} },
		func(l *api.Layout) { l.Flanks[0] = api.Flank{S: 7, Way: 0, Point: 5, Pos: 0} },
		func(l *api.Layout) { l.Flanks[0] = api.Flank{S: 1, Way: 1, Point: 5, Pos: -1} },
	} {
		l := yard()
		bad(&l)
		wantRight(t, "by hand "+strconv.Itoa(i), l, false)
	}
}

// P6.1: Own, Same

// others are layouts that differ from yard by how many they have of something.
func others() []api.Layout {
	var all []api.Layout
	for _, change := range []func(l *api.Layout){
		func(l *api.Layout) { l.Sections = nil },
		func(l *api.Layout) { l.Sections = l.Sections[:6] },
		func(l *api.Layout) { l.Sections = append(l.Sections, api.Section{}) },
		func(l *api.Layout) { l.Signals = nil },
		func(l *api.Layout) { l.Signals = l.Signals[:2] },
		func(l *api.Layout) { l.Signals = append(l.Signals, api.Signal{}) },
		func(l *api.Layout) { l.Exits = nil },
		func(l *api.Layout) { l.Exits = l.Exits[:2] },
		func(l *api.Layout) { l.Exits = append(l.Exits, api.Exit{}) },
		func(l *api.Layout) { l.Flanks = nil },
		func(l *api.Layout) { l.Flanks = l.Flanks[:2] },
		func(l *api.Layout) { l.Flanks = append(l.Flanks, api.Flank{}) },
		func(l *api.Layout) { l.Exits[0].Over = []api.Step{{}} },
		func(l *api.Layout) { l.Exits[2].Over = nil },
		func(l *api.Layout) { l.Exits[2].Over = l.Exits[2].Over[:1] },
		func(l *api.Layout) { l.Exits[2].Over = append(l.Exits[2].Over, api.Step{}) },
	} {
		l := yard()
		change(&l)
		all = append(all, l)
	}
	return all
}

func wantSame(t *testing.T, what string, a, b api.Layout, want bool) {
	t.Helper()
	if got, turned := layout.Same(a, b), layout.Same(b, a); got != want || turned != want {
		t.Errorf("%s: Same is %v, the other way about %v", what, got, turned)
	}
}

func TestSame(t *testing.T) {
	for _, lay := range []func() api.Layout{yard, bare, fullest, func() api.Layout { return api.Layout{} }} {
		wantSame(t, "the same", lay(), lay(), true)
	}
	wantSame(t, "yard, fullest", yard(), fullest(), false)
	wantSame(t, "bare, nothing", bare(), api.Layout{}, false)
	for i, l := range others() {
		wantSame(t, "other "+strconv.Itoa(i), yard(), l, false)
		wantSame(t, "other "+strconv.Itoa(i)+", and itself", l, layout.Own(l), true)
	}
}

func TestSameDiffersByEachNumber(t *testing.T) {
	for i := range places(ownPlaces(yard)) {
		for _, by := range []int{1, -1, 256, 1 << 32, math.MinInt} {
			l := yard()
			p := places(&l)[i]
			*p.at += by
			wantSame(t, p.what, yard(), l, false)
			wantSame(t, p.what+", itself", l, layout.Own(l), true)
		}
	}
	for n := range yard().Sections {
		l := yard()
		l.Sections[n].Kind += 128
		wantSame(t, "a kind", yard(), l, false)
	}
}

// The same things in another order are another layout: they go by their numbers.
func TestSameGoesByOrder(t *testing.T) {
	for i, change := range []func(l *api.Layout){
		func(l *api.Layout) { l.Sections[0], l.Sections[1] = l.Sections[1], l.Sections[0] },
		func(l *api.Layout) { l.Signals[0], l.Signals[1] = l.Signals[1], l.Signals[0] },
		func(l *api.Layout) { l.Exits[0], l.Exits[1] = l.Exits[1], l.Exits[0] },
		func(l *api.Layout) { l.Flanks[0], l.Flanks[1] = l.Flanks[1], l.Flanks[0] },
		func(l *api.Layout) {
			o := l.Exits[2].Over
			o[0], o[1] = o[1], o[0]
		},
	} {
		l := yard()
		change(&l)
		wantSame(t, "order "+strconv.Itoa(i), yard(), l, false)
	}
}

// emptied is l, lists of nothing being empty, not nil.
func emptied(l api.Layout) api.Layout {
	if len(l.Sections) == 0 {
		l.Sections = []api.Section{}
	}
	if len(l.Signals) == 0 {
		l.Signals = []api.Signal{}
	}
	if len(l.Flanks) == 0 {
		l.Flanks = []api.Flank{}
	}
	if len(l.Exits) == 0 {
		l.Exits = []api.Exit{}
	}
	for i := range l.Exits {
		if len(l.Exits[i].Over) == 0 {
			l.Exits[i].Over = []api.Step{}
		}
	}
	return l
}

func TestNilIsEmpty(t *testing.T) {
	for _, lay := range []func() api.Layout{bare, yard, func() api.Layout { return api.Layout{} }} {
		a, b := lay(), emptied(lay())
		wantSame(t, "nil and empty", a, b, true)
		wantSame(t, "own", layout.Own(a), layout.Own(b), true)
		wantRight(t, "empty", b, layout.Right(a))
		if layout.Signal(b, none()) != -1 || layout.Exit(b, none()) != -1 {
			t.Error("something is where the track ends")
		}
	}
}

// roomy is l, spare room behind each of its lists.
func roomy(l api.Layout) api.Layout {
	l.Sections = append(l.Sections, make([]api.Section, 5)...)[:len(l.Sections)]
	l.Signals = append(l.Signals, make([]api.Signal, 5)...)[:len(l.Signals)]
	l.Flanks = append(l.Flanks, make([]api.Flank, 5)...)[:len(l.Flanks)]
	l.Exits = append(l.Exits, make([]api.Exit, 5)...)[:len(l.Exits)]
	for i := range l.Exits {
		l.Exits[i].Over = append(l.Exits[i].Over, make([]api.Step, 5)...)[:len(l.Exits[i].Over)]
	}
	return l
}

// wide is l with its lists as long as there is room.
func wide(l api.Layout) api.Layout {
	l.Sections, l.Signals, l.Flanks = l.Sections[:cap(l.Sections)], l.Signals[:cap(l.Signals)], l.Flanks[:cap(l.Flanks)]
	// Its own exits, so that only those of this one have long overlaps.
	l.Exits = append([]api.Exit(nil), l.Exits[:cap(l.Exits)]...)
	for i := range l.Exits {
		l.Exits[i].Over = l.Exits[i].Over[:cap(l.Exits[i].Over)]
	}
	return l
}

// copied is l in memory of its own, not by the package.
func copied(l api.Layout) api.Layout {
	l.Sections = append([]api.Section(nil), l.Sections...)
	l.Signals = append([]api.Signal(nil), l.Signals...)
	l.Flanks = append([]api.Flank(nil), l.Flanks...)
	l.Exits = append([]api.Exit(nil), l.Exits...)
	for i := range l.Exits {
		l.Exits[i].Over = append([]api.Step(nil), l.Exits[i].Over...)
	}
	return l
}

// spoil writes over all of a layout's memory, spare room too.
func spoil(l api.Layout) {
	w := wide(l)
	l.Exits = l.Exits[:cap(l.Exits)]
	for _, p := range places(&w) {
		*p.at ^= 0x5a
	}
	for i := range w.Sections {
		w.Sections[i].Kind ^= 0x5a
	}
	for i := range l.Exits {
		l.Exits[i] = api.Exit{At: api.Port{S: -9, P: -9}}
	}
}

func TestOwn(t *testing.T) {
	odd := yard()
	odd.Sections[3].Kind, odd.Exits[1].At.S, odd.Times.Link = 200, math.MinInt, -4
	odd.Exits[0].Over = make([]api.Step, 9)
	for i, l := range append(others(), yard(), bare(), fullest(), api.Layout{}, odd) {
		l = roomy(l)
		own, again := layout.Own(l), layout.Own(l)
		was := copied(l)
		if !layout.Same(own, l) || !layout.Same(again, l) {
			t.Errorf("%d: own is another", i)
		}
		spoil(own)
		if !layout.Same(l, was) || !layout.Same(again, was) {
			t.Errorf("%d: own shares memory", i)
		}
		spoil(l)
		if !layout.Same(again, was) {
			t.Errorf("%d: own shares memory with what was handed in", i)
		}
	}
}

// No two overlaps of one answer share memory, even if those handed in do.
func TestOwnListsShareNothing(t *testing.T) {
	l, over := yard(), make([]api.Step, 2, 9)
	for i := range l.Exits {
		l.Exits[i].Over = over[:i%2+1]
	}
	own := layout.Own(l)
	own.Exits[0].Over = append(own.Exits[0].Over, api.Step{S: 9})
	for i := range own.Exits {
		for j := range own.Exits[i].Over {
			own.Exits[i].Over[j] = api.Step{S: i, In: 7, Out: 7}
		}
	}
	for i, x := range own.Exits {
		for _, s := range x.Over {
			if s != (api.Step{S: i, In: 7, Out: 7}) {
				t.Errorf("the overlap of %d was written over: %v", i, x.Over)
			}
		}
	}
	if over[0] != (api.Step{}) || over[1] != (api.Step{}) {
		t.Error("what was handed in has changed")
	}
}

// P6.2

// odds are layouts whose numbers may not be, too.
func odds() []api.Layout {
	strange := yard()
	strange.Sections[0].Kind, strange.Sections[2].Kind, strange.Sections[6].Kind = 0, 4, 255
	cut := yard()
	cut.Sections = cut.Sections[:3]
	return []api.Layout{yard(), bare(), fullest(), {}, strange, cut, stretch(40)}
}

func TestAt(t *testing.T) {
	for i, l := range odds() {
		there := 0
		for _, s := range append(numbers(), 39, 40) {
			for _, n := range numbers() {
				p := api.Port{S: s, P: n}
				want, is := api.Section{}, hasPort(l, p)
				if is {
					want = l.Sections[s]
					there++
				}
				if got, ok := layout.At(l, p); got != want || ok != is {
					t.Errorf("layout %d: At(%v) is %v, %v", i, p, got, ok)
				}
			}
		}
		if i == 0 && there != 4*2+2*3+4 {
			t.Errorf("the yard has %d ports", there)
		}
	}
}

func TestAtByHand(t *testing.T) {
	l := yard()
	for _, p := range []api.Port{{S: 0, P: 0}, {S: 0, P: 1}, {S: 1, P: 2}, {S: 2, P: 3}, {S: 6, P: 1}} {
		if got, ok := layout.At(l, p); got != l.Sections[p.S] || !ok {
			t.Errorf("At(%v) is %v, %v", p, got, ok)
		}
	}
	for _, p := range []api.Port{none(), {S: 0, P: 2}, {S: 0, P: -1}, {S: 1, P: 3}, {S: 2, P: 4}, {S: 7, P: 0}, {S: -2, P: 0}, {S: math.MaxInt, P: 0}, {S: 0, P: math.MinInt}} {
		if got, ok := layout.At(l, p); got != (api.Section{}) || ok {
			t.Errorf("At(%v) is %v, %v", p, got, ok)
		}
	}
}

// Layouts of more sections than may be have all of their ports, and steps.
func TestThereBeyondLimits(t *testing.T) {
	l := stretch(40)
	if got, ok := layout.At(l, api.Port{S: 39, P: 1}); got != l.Sections[39] || !ok {
		t.Error("no port of section 39")
	}
	if way, ok := layout.Step(l, api.Step{S: 39, In: 1, Out: 0}); way != 0 || !ok {
		t.Error("no step through section 39")
	}
}

func TestStep(t *testing.T) {
	ends := []int{math.MinInt, -1, 0, 1, 2, 3, 4, 5, 1 << 32, math.MaxInt}
	for i, l := range odds() {
		for _, s := range append(numbers(), 39, 40) {
			for _, in := range ends {
				for _, out := range ends {
					step := api.Step{S: s, In: in, Out: out}
					want, is := wayOf(l, step)
					if way, ok := layout.Step(l, step); way != want || ok != is {
						t.Errorf("layout %d: Step(%v) is %d, %v", i, step, way, ok)
					}
				}
			}
		}
	}
}

func TestStepByHand(t *testing.T) {
	l := yard()
	for _, x := range []struct {
		s   api.Step
		way int
		ok  bool
	}{
		{api.Step{S: 0, In: 0, Out: 1}, 0, true}, {api.Step{S: 0, In: 1, Out: 0}, 0, true},
		{api.Step{S: 1, In: 0, Out: 1}, 0, true}, {api.Step{S: 1, In: 0, Out: 2}, 1, true}, {api.Step{S: 1, In: 2, Out: 0}, 1, true}, {api.Step{S: 1, In: 1, Out: 2}, 0, false},
		{api.Step{S: 2, In: 3, Out: 2}, 1, true}, {api.Step{S: 2, In: 0, Out: 2}, 0, false}, {api.Step{S: 2, In: 1, Out: 1}, 0, false},
		{api.Step{S: 7, In: 0, Out: 1}, 0, false}, {api.Step{S: -1, In: 0, Out: 1}, 0, false}, {api.Step{S: 0, In: 0, Out: 2}, 0, false},
	} {
		if way, ok := layout.Step(l, x.s); way != x.way || ok != x.ok {
			t.Errorf("Step(%v) is %d, %v", x.s, way, ok)
		}
	}
}

// P6.3

func TestSignalAndExit(t *testing.T) {
	signals := map[api.Port]int{{S: 0, P: 0}: 0, {S: 4, P: 0}: 1, {S: 5, P: 0}: 2}
	exits := map[api.Port]int{{S: 3, P: 1}: 0, {S: 1, P: 1}: 1, {S: 1, P: 2}: 2}
	for _, s := range numbers() {
		for _, n := range numbers() {
			p := api.Port{S: s, P: n}
			signal, exit := -1, -1
			if at, ok := signals[p]; ok {
				signal = at
			}
			if at, ok := exits[p]; ok {
				exit = at
			}
			if got := layout.Signal(yard(), p); got != signal {
				t.Errorf("Signal(%v) is %d", p, got)
			}
			if got := layout.Exit(yard(), p); got != exit {
				t.Errorf("Exit(%v) is %d", p, got)
			}
			if layout.Signal(bare(), p) != -1 || layout.Exit(bare(), p) != -1 {
				t.Errorf("nothing has something at %v", p)
			}
		}
	}
}

func TestTheFirstIsTold(t *testing.T) {
	l := yard()
	l.Signals = append(l.Signals, l.Signals[2], l.Signals[0], l.Signals[2])
	l.Exits = append(l.Exits, l.Exits[1], l.Exits[0], l.Exits[1])
	for n := range 3 {
		if got := layout.Signal(l, l.Signals[n].At); got != n {
			t.Errorf("Signal: %d, want %d", got, n)
		}
		if got := layout.Exit(l, l.Exits[n].At); got != n {
			t.Errorf("Exit: %d, want %d", got, n)
		}
	}
	full := fullest()
	if layout.Signal(full, api.Port{S: 23, P: 3}) != 0 || layout.Exit(full, api.Port{S: 23, P: 0}) != 0 {
		t.Error("of all that are at one port not the first")
	}
}

// In layouts whose numbers may not be, signals and exits are found by what they tell, be it there or not, and beyond the limits, too.
func TestSignalAndExitOfAnyLayout(t *testing.T) {
	for _, p := range []api.Port{none(), {S: math.MinInt, P: math.MaxInt}, {S: 99, P: 1}} {
		l := api.Layout{Signals: make([]api.Signal, 30), Exits: make([]api.Exit, 50)}
		l.Signals[29].At, l.Exits[49].At = p, p
		if got := layout.Signal(l, p); got != 29 {
			t.Errorf("Signal(%v) is %d", p, got)
		}
		if got := layout.Exit(l, p); got != 49 {
			t.Errorf("Exit(%v) is %d", p, got)
		}
	}
}

// P6.4

func TestWhereNumbersMayBeAllIsThere(t *testing.T) {
	seen := 0
	for i, l := range rights() {
		if !layout.Right(l) {
			t.Fatalf("layout %d may not be", i)
		}
		for _, p := range named(l) {
			seen++
			if s, ok := layout.At(l, p); !ok || s != l.Sections[p.S] {
				t.Errorf("layout %d: %v is not there", i, p)
			}
		}
		for _, x := range l.Exits {
			for _, s := range x.Over {
				if way, ok := layout.Step(l, s); !ok || way < 0 || way > 1 {
					t.Errorf("layout %d: %v is not there", i, s)
				}
			}
		}
	}
	if seen == 0 {
		t.Error("no port is named")
	}
}

// rights are layouts whose numbers may be: yard and fullest, and those by one other number.
func rights() []api.Layout {
	all := []api.Layout{yard(), bare(), fullest()}
	for i := range places(ownPlaces(yard)) {
		for n := -1; n < 8; n++ {
			l := yard()
			*places(&l)[i].at = n
			if may(l) {
				all = append(all, l)
			}
		}
	}
	return all
}

// named are the ports that a layout names.
func named(l api.Layout) []api.Port {
	var all []api.Port
	for _, s := range l.Sections {
		for _, p := range s.Join {
			if p.S >= 0 {
				all = append(all, p)
			}
		}
	}
	for _, s := range l.Signals {
		all = append(all, s.At)
	}
	for _, x := range l.Exits {
		all = append(all, x.At)
	}
	return all
}

func TestOneNumberOutOfItsBounds(t *testing.T) {
	for _, lay := range []func() api.Layout{yard, fullest} {
		for i := range places(ownPlaces(lay)) {
			for _, n := range []int{math.MinInt, -2, 1001, 1 << 32, math.MaxInt} {
				l := lay()
				p := places(&l)[i]
				*p.at = n
				wantRight(t, p.what+" is "+strconv.Itoa(n), l, false)
			}
		}
	}
}

// R1, R3, R4 (R1's wrong numbers: all of the above; R2: no call answers an error)

// told is what all calls tell of the yard.
type told struct {
	right, same, at bool
	section         api.Section
	way             int
	step            bool
	signal, exit    int
}

func tell() told {
	l := yard()
	s, at := layout.At(l, api.Port{S: 1, P: 2})
	way, step := layout.Step(l, api.Step{S: 1, In: 2, Out: 0})
	return told{layout.Right(l), layout.Same(l, layout.Own(l)), at, s, way, step, layout.Signal(l, api.Port{S: 5, P: 0}), layout.Exit(l, api.Port{S: 1, P: 2})}
}

func TestAnswersHangOnTheirArgumentsAlone(t *testing.T) {
	was := tell()
	if want := (told{true, true, true, yard().Sections[1], 1, true, 2, 2}); was != want {
		t.Errorf("got %v", was)
	}
	for i, l := range append(odds(), others()...) {
		layout.Right(l)
		layout.Same(l, yard())
		layout.Own(l)
		layout.At(l, api.Port{S: i, P: 1})
		layout.Step(l, api.Step{S: i, In: 1, Out: 0})
		layout.Signal(l, api.Port{S: i, P: 0})
		layout.Exit(l, api.Port{S: i, P: 1})
		if now := tell(); now != was {
			t.Fatalf("behind calls by %d: %v, then %v", i, was, now)
		}
	}
}

func TestArgumentsStay(t *testing.T) {
	for i, l := range append(odds(), others()...) {
		x := roomy(l)
		was := copied(wide(x))
		layout.Right(x)
		layout.Same(x, x)
		layout.Own(x)
		layout.At(x, api.Port{S: 1, P: 1})
		layout.Step(x, api.Step{S: 1, In: 0, Out: 1})
		layout.Signal(x, api.Port{S: 1, P: 1})
		layout.Exit(x, api.Port{S: 1, P: 1})
		if !layout.Same(wide(x), was) {
			t.Errorf("layout %d, which was handed in, has changed", i)
		}
	}
}

func TestLongListsEnd(t *testing.T) {
	long := api.Layout{Times: bare().Times, Sections: make([]api.Section, 200000), Signals: make([]api.Signal, 200000), Exits: make([]api.Exit, 200000), Flanks: make([]api.Flank, 200000)}
	long.Exits[0].Over = make([]api.Step, 200000)
	wantRight(t, "long lists", long, false)
	own := layout.Own(long)
	wantSame(t, "long lists", own, long, true)
	own.Exits[0].Over[199999].Out = 1
	wantSame(t, "long lists", own, long, false)
	if layout.Signal(long, none()) != -1 || layout.Exit(long, none()) != -1 {
		t.Error("something is where the track ends")
	}
}
