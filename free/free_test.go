package free_test

import (
	"fmt"
	"math"
	"slices"
	"testing"

	"lockbar/api"
	"lockbar/free"
	"lockbar/held"
	"lockbar/image"
	"lockbar/need"
)

// The limits are written out here, so that a wrong one would be seen.
const (
	topTick = 1 << 30
	topTime = 1000
	topHeld = 6
	rows    = 24
)

// numbers are such as lie at the edges, far beyond them, and in between.
func numbers() []int {
	return []int{math.MinInt, math.MinInt + 1, math.MinInt32, -1001, -256, -24, -13, -2, -1, 0, 1, 2, 3, 4, 5, 6, 7, 11, 12, 13, 22, 23, 24, 25, 31, 32, 255, 256, 999, 1000, 1001, 65535, 65536, topTick - 1, topTick, topTick + 1, math.MaxInt32, math.MaxUint32, 1 << 32, 1<<32 + 1, 1 << 62, math.MaxInt - 1, math.MaxInt}
}

// places are numbers of sections that are asked for: all that there can be, and wild ones.
func places() []int {
	all := numbers()
	for n := range rows + 18 {
		all = append(all, n)
	}
	return all
}

// roller gives numbers from 0 to below n by a rule of its own, so that they are the same each time.
func roller(seed uint32) func(n int) int {
	return func(n int) int {
		seed = seed*1664525 + 1013904223
		return int(seed>>16) % n
	}
}

// end is where the track ends.
func end() api.Port { return api.Port{S: -1, P: 0} }

// goings are the ends of a kind's ways, by the way's number, as chapter 5 writes them out.
func goings(kind uint8) [][2]int {
	switch kind {
	case 1:
		return [][2]int{{0, 1}}
	case 2:
		return [][2]int{{0, 1}, {0, 2}}
	case 3:
		return [][2]int{{0, 1}, {2, 3}}
	}
	return nil
}

// apart are so many sections of that kind that join to nothing, and all times at their least.
func apart(kind uint8, sections int) api.Layout {
	l := api.Layout{Times: api.Times{Clear: 1, Drive: 1, Stale: 1, Approach: 1, Over: 1, Press: 1, Link: 1}}
	for range sections {
		l.Sections = append(l.Sections, api.Section{Kind: kind, Join: [4]api.Port{end(), end(), end(), end()}})
	}
	return l
}

// tie joins two ports, both ways about.
func tie(l *api.Layout, a, b api.Port) {
	l.Sections[a.S].Join[a.P] = b
	l.Sections[b.S].Join[b.P] = a
}

// yard is a layout that hangs together: points 1 and 5, a crossing 2, all others plain. From 0 by 1 one way goes by 6 and 5, the other one by 2 and 3; from 4 one by 2 and 5. Overlaps have no, one, two steps. A flank at 6 wants 1 reverse, one at 3 wants 5 reverse.
func yard() api.Layout {
	l := apart(1, 7)
	l.Sections[1].Kind, l.Sections[5].Kind, l.Sections[2].Kind = 2, 2, 3
	for _, x := range [][2]api.Port{
		{{S: 0, P: 1}, {S: 1, P: 0}}, {{S: 1, P: 1}, {S: 2, P: 0}}, {{S: 1, P: 2}, {S: 6, P: 0}}, {{S: 2, P: 1}, {S: 3, P: 0}},
		{{S: 2, P: 2}, {S: 4, P: 1}}, {{S: 2, P: 3}, {S: 5, P: 2}}, {{S: 5, P: 1}, {S: 6, P: 1}},
	} {
		tie(&l, x[0], x[1])
	}
	l.Signals = []api.Signal{{At: api.Port{S: 0, P: 0}}, {At: api.Port{S: 4, P: 0}}, {At: api.Port{S: 5, P: 0}}}
	l.Exits = []api.Exit{
		{At: api.Port{S: 5, P: 0}},
		{At: api.Port{S: 1, P: 1}, Over: short(201)},
		{At: api.Port{S: 1, P: 2}, Over: short(601, 510)},
		{At: api.Port{S: 0, P: 1}, Over: short(101)},
		{At: api.Port{S: 2, P: 1}, Over: short(301)},
	}
	l.Flanks = []api.Flank{{S: 6, Way: 0, Point: 1, Pos: 1}, {S: 3, Way: 0, Point: 5, Pos: 1}}
	return l
}

// short is how steps are written: by the section, and by the ports.
func short(numbers ...int) []api.Step {
	var all []api.Step
	for _, n := range numbers {
		all = append(all, api.Step{S: n / 100, In: n / 10 % 10, Out: n % 10})
	}
	return all
}

// to is a path of such steps from a signal to an exit.
func to(signal, exit int, numbers ...int) api.Path {
	return api.Path{Signal: signal, Exit: exit, Steps: short(numbers...)}
}

// mixed is a layout by numbers that may be, its sections joined: most of them points, flanks at ways of all of them, overlaps by what lies beyond, times of few ticks.
func mixed(seed uint32) api.Layout {
	roll := roller(seed)
	l := apart(1, 2+roll(8))
	l.Times.Clear, l.Times.Stale = 1+roll(3), 1+roll(3)
	var all []api.Port
	for s := range l.Sections {
		kind := []uint8{1, 1, 2, 2, 2, 3}[roll(6)]
		l.Sections[s].Kind = kind
		for p := range int(kind) + 1 {
			all = append(all, api.Port{S: s, P: p})
		}
	}
	for range 3 * len(all) {
		a, b := all[roll(len(all))], all[roll(len(all))]
		if a.S != b.S && l.Sections[a.S].Join[a.P] == end() && l.Sections[b.S].Join[b.P] == end() {
			tie(&l, a, b)
		}
	}
	for range roll(5) {
		at := all[roll(len(all))]
		l.Exits = append(l.Exits, api.Exit{At: at, Over: walked(l, at, roll(3), roll)})
	}
	for range roll(9) {
		f := api.Flank{S: roll(len(l.Sections)), Point: roll(len(l.Sections)), Pos: roll(2)}
		f.Way = roll(len(goings(l.Sections[f.S].Kind)))
		if f.S != f.Point && l.Sections[f.Point].Kind == 2 {
			l.Flanks = append(l.Flanks, f)
		}
	}
	return l
}

// steps are those that are there, in one order.
func steps(l api.Layout) []api.Step {
	var all []api.Step
	for s, x := range l.Sections {
		for _, e := range goings(x.Kind) {
			all = append(all, api.Step{S: s, In: e[0], Out: e[1]}, api.Step{S: s, In: e[1], Out: e[0]})
		}
	}
	return all
}

// walked are steps on from a port, by what lies beyond, as many as there can be, up to so many.
func walked(l api.Layout, from api.Port, many int, roll func(n int) int) []api.Step {
	var all []api.Step
	for range many {
		q := l.Sections[from.S].Join[from.P]
		var on []api.Step
		for _, s := range steps(l) {
			if s.S == q.S && s.In == q.P {
				on = append(on, s)
			}
		}
		if on == nil {
			break
		}
		s := on[roll(len(on))]
		all, from = append(all, s), api.Port{S: s.S, P: s.Out}
	}
	return all
}

// odds are layouts that do not hang together: of nothing, of no kinds, of too many sections, of wild numbers, with points that are their own flanks.
func odds() []api.Layout {
	lost, wild, long, own := yard(), yard(), apart(2, 40), yard()
	lost.Sections[1].Kind, lost.Sections[2].Kind, lost.Sections[6].Kind = 0, 4, 255
	for i, n := range numbers() {
		m := numbers()[i*7%len(numbers())]
		wild.Exits = append(wild.Exits, api.Exit{At: api.Port{S: n, P: m}, Over: []api.Step{{S: n, In: m, Out: i}, {S: 5, In: 0, Out: 2}, {S: m}, {Out: 1}}[:i%5]})
		wild.Flanks = append(wild.Flanks, api.Flank{S: i % 7, Way: i % 2, Point: n, Pos: m}, api.Flank{S: n, Way: m, Point: 1, Pos: 1}, api.Flank{S: 0, Way: n, Point: 5, Pos: 0})
	}
	for n := range 40 {
		tie(&long, api.Port{S: n, P: 1}, api.Port{S: (n + 1) % 40, P: 0})
		long.Flanks = append(long.Flanks, api.Flank{S: 39, Way: n % 2, Point: n, Pos: n})
		long.Exits = append(long.Exits, api.Exit{Over: steps(long)[:n]})
	}
	own.Flanks = append(own.Flanks, api.Flank{S: 5, Way: 1, Point: 5, Pos: 0}, api.Flank{S: 6, Way: 0, Point: 6, Pos: 1}, api.Flank{S: 6, Way: 0, Point: 6, Pos: 2})
	late := yard()
	late.Times = api.Times{Clear: -5, Stale: math.MaxInt}
	return []api.Layout{{}, lost, wild, long, own, late, {Sections: make([]api.Section, 3), Exits: make([]api.Exit, 3)}, {Exits: yard().Exits, Flanks: yard().Flanks}}
}

// anys are layouts of all sorts.
func anys() []api.Layout {
	all := append([]api.Layout{yard(), apart(1, 1), apart(2, 24), apart(3, 24)}, odds()...)
	for seed := range uint32(100) {
		all = append(all, mixed(seed))
	}
	return all
}

// sight is an image in which all is clear but these sections, and points stand by these bits.
func sight(l api.Layout, occ, normal, reverse uint32) api.Image {
	im := image.New()
	for range l.Times.Clear {
		im = image.Take(l, im, api.In{Occ: occ, Normal: normal, Reverse: reverse, Lamp: math.MaxUint32})
	}
	return im
}

// word is 32 bits by a rule: none, all, many, few of them.
func word(roll func(n int) int) uint32 {
	x, y := uint32(roll(65536))<<16|uint32(roll(65536)), uint32(roll(65536))<<16|uint32(roll(65536))
	return []uint32{0, math.MaxUint32, x, x & y, x | y}[roll(5)]
}

// looks is an image by a rule: most of them told a short time ago, most of their sections told clear for long enough; few are stale.
func looks(l api.Layout, roll func(n int) int) api.Image {
	im := api.Image{In: api.In{Occ: word(roll) & word(roll) & word(roll), Normal: word(roll), Reverse: word(roll), Lamp: word(roll)}}
	if roll(3) > 0 {
		im.In.Occ, im.In.Reverse = 0, ^im.In.Normal
	}
	if roll(4) == 0 {
		im.Age = []int{1, 2, 3, 4, 65535, -1}[roll(6)]
	}
	for s := range im.Free {
		im.Free[s] = l.Times.Clear
		if roll(9) == 0 {
			im.Free[s] += roll(5) - 3
		}
	}
	return im
}

// through are steps through these sections.
func through(sections ...int) []api.Step {
	var all []api.Step
	for _, s := range sections {
		all = append(all, api.Step{S: s, In: 0, Out: 1})
	}
	return all
}

// of is a route through these sections, that is set, of a signal that no layout here has.
func of(path, over []int, needs ...api.Need) api.Held {
	return api.Held{Id: 1, Path: api.Path{Signal: 50, Steps: through(path...)}, Over: through(over...), Needs: needs, Stage: 2}
}

// at is a route with so many of its path's sections released, its overlap, too, or not.
func at(h api.Held, gone int, open bool) api.Held {
	h.Gone, h.Open = gone, open
	return h
}

// in is a route in that stage.
func in(stage uint8, h api.Held) api.Held {
	h.Stage = stage
	return h
}

// wants is what a path's first step needs.
func wants(p, pos int) api.Need { return api.Need{P: p, Pos: pos} }

// none are machines at rest.
func none() [rows]api.Machine {
	var all [rows]api.Machine
	for p := range all {
		all[p].Want = -1
	}
	return all
}

// kernel is one of these routes by rising numbers, machines at rest.
func kernel(routes ...api.Held) api.Kernel {
	k := api.Kernel{Machines: none()}
	for n, h := range routes {
		h.Id = n + 1
		k.Held = append(k.Held, h)
	}
	k.Next = len(routes) + 1
	return k
}

// base is a kernel that may be: of three routes, machines at rest, called, and failed.
func base() api.Kernel {
	a := of([]int{3, 5, 6}, []int{7}, api.Need{P: 5, Pos: 0, K: 1}, api.Need{P: 9, Pos: 1, K: 1}, api.Need{P: 2, Pos: 0, K: 0}, api.Need{P: 7, Pos: 1, K: 3})
	b := of([]int{0, 23}, []int{8, 10}, api.Need{P: 9, Pos: 1, K: 0}, api.Need{P: 23, Pos: 1, K: 1}, api.Need{P: 0, Pos: 0, K: 2})
	c := of([]int{12}, nil, api.Need{P: 9, Pos: 1, K: 0})
	a.Id, b.Id, c.Id = 4, 5, 9
	a.Stage, b.Stage, c.Stage, a.Shown, a.Timer, a.Was[0] = 3, 1, 4, true, 8, true
	k := api.Kernel{Next: 10, Held: []api.Held{a, b, c}, Machines: none()}
	k.Machines[0], k.Machines[5], k.Machines[23] = api.Machine{Want: 1, Run: 1000}, api.Machine{Want: 0, Run: 3, Fail: true}, api.Machine{Want: 1, Run: 0}
	return k
}

// changed is it with something else.
func changed(change func(k *api.Kernel)) api.Kernel {
	k := base()
	change(&k)
	return k
}

// dealt are numbers from 0 to below rows, each once, in an order that is rolled.
func dealt(roll func(n int) int) []int {
	var all []int
	for n := range rows {
		at := roll(n + 1)
		all = slices.Insert(all, at, n)
	}
	return all
}

// machines are such as may be, most of them at rest.
func machines(roll func(n int) int) [rows]api.Machine {
	all := none()
	for p := range all {
		if roll(3) == 0 {
			all[p] = api.Machine{Want: roll(2), Run: []int{0, 1, 999, 1000}[roll(4)], Fail: roll(2) == 0}
		}
	}
	return all
}

// fair is a kernel by numbers that may be.
func fair(roll func(n int) int) api.Kernel {
	left, stands := dealt(roll), roll(1<<15)|roll(1<<9)<<15
	k := api.Kernel{Next: 1 + roll(30), Machines: machines(roll)}
	for range roll(topHeld + 1) {
		most := min(12, len(left)-2)
		if most < 1 {
			break
		}
		many, over := 1+roll(most)/(1+roll(3)), roll(3)
		h := of(left[:many], left[many:many+over])
		left = left[many+over:]
		h.Id, h.Stage, h.Gone, h.Timer, h.Open, h.Shown = k.Next, uint8(1+roll(4)), roll(many+1), roll(30), roll(3) == 0, roll(2) == 0
		h.Path.Signal, h.Path.Exit = roll(12), roll(12)
		for range roll(7) {
			p := roll(rows)
			h.Needs = append(h.Needs, api.Need{P: p, Pos: stands >> p & 1, K: roll(many + 1)})
		}
		k.Held = append(k.Held, h)
		k.Next += 1 + roll(2)*roll(9)
	}
	return k
}

// small is a kernel by few numbers: most such may not be, most routes meet, and wish points several ways.
func small(roll func(n int) int) api.Kernel {
	k := api.Kernel{Next: roll(9), Machines: machines(roll)}
	for n := range roll(9) {
		var lists [2][]int
		for n, most := range []int{4, 3} {
			for range roll(most) {
				lists[n] = append(lists[n], roll(30)-2)
			}
		}
		h := of(lists[0], lists[1])
		h.Id, h.Stage, h.Gone, h.Open = n+roll(2), uint8(roll(5)), roll(5)-2, roll(2) == 0
		if roll(3) > 0 {
			h.Stage = 1
		}
		h.Path.Signal = roll(20) - 1
		for range roll(4) {
			h.Needs = append(h.Needs, api.Need{P: roll(30) - 2, Pos: roll(7)/2 - 1, K: roll(6) - 2})
		}
		k.Held = append(k.Held, h)
	}
	for range roll(3) {
		k.Machines[roll(rows)] = api.Machine{Want: roll(5) - 2, Run: roll(4) - 1, Fail: roll(2) == 0}
	}
	return k
}

// wild is a kernel of numbers of all sorts.
func wild(roll func(n int) int) api.Kernel {
	any := func() int { return numbers()[roll(len(numbers()))] }
	k := api.Kernel{Next: any()}
	for range roll(10) {
		h := api.Held{Id: any(), Path: api.Path{Signal: any(), Exit: any()}, Stage: uint8(roll(256)), Gone: any(), Open: roll(2) == 0, Timer: any()}
		for range roll(16) {
			h.Path.Steps = append(h.Path.Steps, api.Step{S: any(), In: any(), Out: any()})
		}
		for range roll(5) {
			h.Over = append(h.Over, api.Step{S: any(), In: any(), Out: any()})
		}
		for range roll(20) {
			h.Needs = append(h.Needs, api.Need{P: any(), Pos: any(), K: any()})
		}
		k.Held = append(k.Held, h)
	}
	for p := range k.Machines {
		k.Machines[p] = api.Machine{Want: any(), Run: any(), Fail: roll(2) == 0}
	}
	return k
}

// kernels are a great many of each sort.
func kernels(many int, seed uint32) []api.Kernel {
	roll := roller(seed)
	var all []api.Kernel
	for range many {
		all = append(all, fair(roll), small(roll), wild(roll))
	}
	return all
}

// The reference: the chapter's words, by other means than the package's.

// broken are the chapter's rules that a kernel breaks.
func broken(k api.Kernel) []string {
	var all []string
	rule := func(name string, holds bool) {
		if !holds {
			all = append(all, name)
		}
	}
	rule("many", len(k.Held) <= topHeld)
	rule("next", k.Next > 0 && k.Next <= topTick)
	for _, h := range k.Held {
		rule("route", held.Right(h) && slices.Contains([]uint8{1, 2, 3, 4}, h.Stage))
	}
	for n, h := range k.Held {
		for m, other := range k.Held {
			rule("rise", n <= m || h.Id > other.Id)
		}
	}
	for _, h := range k.Held {
		rule("below", h.Id < k.Next)
	}
	for n, h := range k.Held {
		for m, other := range k.Held {
			rule("apart", n == m || areApart(h, other))
		}
	}
	for _, m := range k.Machines {
		rest := m == api.Machine{Want: -1}
		rule("machine", rest || (m.Want == 0 || m.Want == 1) && m.Run >= 0 && m.Run <= topTime)
	}
	return slices.Compact(all)
}

// heldBy are the sections that a route still holds: of the path all that are left when one by one was released.
func heldBy(h api.Held) []int {
	all := slices.Clone(h.Path.Steps)
	for gone := h.Gone; gone > 0 && len(all) > 0; gone-- {
		all = all[1:]
	}
	if !h.Open {
		all = append(all, h.Over...)
	}
	var sections []int
	for _, s := range all {
		sections = append(sections, s.S)
	}
	return sections
}

// neededBy are the needs that still hold: all but those that do not.
func neededBy(h api.Held) []api.Need {
	return slices.DeleteFunc(slices.Clone(h.Needs), func(n api.Need) bool {
		return n.K < 0 || n.K < h.Gone || n.K == len(h.Path.Steps) && h.Open
	})
}

// areApart tells whether two routes are: each section, each need of one is held against each of the other.
func areApart(a, b api.Held) bool {
	meet := 0
	for _, s := range heldBy(a) {
		for _, q := range heldBy(b) {
			if s == q {
				meet++
			}
		}
	}
	for _, n := range neededBy(a) {
		for _, m := range neededBy(b) {
			if n.P == m.P && n.Pos != m.Pos {
				meet++
			}
		}
	}
	return meet == 0
}

// claims is what routes make of sections and points: from the last one to the first, so that what the first one makes of them is what is left.
type claims struct {
	holder, wanted map[int]int
	locked         map[int]bool
}

// claimed are a kernel's.
func claimed(k api.Kernel) claims {
	c := claims{map[int]int{}, map[int]int{}, map[int]bool{}}
	for _, h := range slices.Backward(k.Held) {
		for _, s := range heldBy(h) {
			c.holder[s] = h.Id
		}
		for _, n := range slices.Backward(neededBy(h)) {
			c.wanted[n.P] = n.Pos
			c.locked[n.P] = c.locked[n.P] || h.Stage != 1
		}
	}
	return c
}

// isFree tells whether a section is free.
func (c claims) isFree(l api.Layout, im api.Image, s int) bool {
	_, has := c.holder[s]
	return s >= 0 && s < rows && s < len(l.Sections) && !image.Occupied(l, im, s) && !has
}

// isMet tells whether a need can be met: by all that stands against it.
func (c claims) isMet(l api.Layout, im api.Image, k api.Kernel, n api.Need) bool {
	if n.P < 0 || n.P >= rows {
		return false
	}
	pos, wanted := c.wanted[n.P]
	elsewhere := image.At(l, im, n.P) != n.Pos
	against := []bool{
		wanted && pos != n.Pos,
		wanted && c.locked[n.P] && elsewhere,
		!wanted && elsewhere && k.Machines[n.P].Fail,
		!wanted && elsewhere && !c.isFree(l, im, n.P),
	}
	return !slices.Contains(against, true)
}

// causes are those by which a path can not be had.
func causes(l api.Layout, im api.Image, k api.Kernel, p api.Path) []string {
	c, all := claimed(k), []string{}
	for _, h := range k.Held {
		if h.Path.Signal == p.Signal && h.Stage != 3 {
			all = append(all, "signal")
		}
	}
	for _, s := range p.Steps {
		if !c.isFree(l, im, s.S) {
			all = append(all, "section")
		}
	}
	for x, e := range l.Exits {
		for _, s := range e.Over {
			if x == p.Exit && !c.isFree(l, im, s.S) {
				all = append(all, "overlap")
			}
		}
	}
	for _, n := range need.Of(l, p) {
		if !c.isMet(l, im, k, n) {
			all = append(all, "need")
		}
	}
	if len(k.Held) > 5 {
		all = append(all, "full")
	}
	return slices.Compact(all)
}

// answer is what is answered by these causes.
func answer(all []string) api.Errno {
	switch {
	case len(all) == 0:
		return 0
	case all[0] == "full":
		return 191
	}
	return 190
}

// wantTold tells of answers about sections and points that are not those by the chapter's words.
func wantTold(t *testing.T, what string, l api.Layout, im api.Image, k api.Kernel) {
	t.Helper()
	c := claimed(k)
	for _, s := range places() {
		id, has := c.holder[s]
		if got, ok := free.Holder(k, s); got != id || ok != has {
			t.Errorf("%s: the holder of %d is %d, %v, want %d, %v: %v", what, s, got, ok, id, has, k)
		}
		pos, wanted := c.wanted[s]
		if got, ok := free.Wanted(k, s); got != pos || ok != wanted {
			t.Errorf("%s: %d is wanted at %d, %v, want %d, %v: %v", what, s, got, ok, pos, wanted, k)
		}
		if got := free.Locked(k, s); got != c.locked[s] {
			t.Errorf("%s: %d is locked: %v: %v", what, s, got, k)
		}
		if got := free.Free(l, im, k, s); got != c.isFree(l, im, s) {
			t.Errorf("%s: %d is free: %v: %v, %v", what, s, got, im, k)
		}
		for _, pos := range []int{-2, -1, 0, 1, 2, s} {
			n := api.Need{P: s, Pos: pos, K: s}
			if got := free.Meets(l, im, k, n); got != c.isMet(l, im, k, n) {
				t.Errorf("%s: %v can be met: %v: %v, %v", what, n, got, im, k)
			}
		}
	}
}

// wantCan tells of a path that can be had, or not, wrongly; it answers by what causes.
func wantCan(t *testing.T, what string, l api.Layout, im api.Image, k api.Kernel, p api.Path) []string {
	t.Helper()
	why := causes(l, im, k, p)
	if got := free.Can(l, im, k, p); got != answer(why) {
		t.Errorf("%s: %d of %v, by %v: %v, %v", what, got, p, why, im, k)
	}
	return why
}

// P18.1

func TestLimitsAreThoseOfTheApi(t *testing.T) {
	if api.MaxTick != topTick || api.MaxTime != topTime || api.MaxHeld != topHeld || api.MaxSections != rows {
		t.Error("the limits are others")
	}
	if api.HtCall != 1 || api.HtSet != 2 || api.HtRun != 3 || api.HtBack != 4 || api.Stages != 5 || api.ErrTaken != 190 || api.ErrFull != 191 {
		t.Error("the stages or the errors are others")
	}
}

func TestThoseThatMayBe(t *testing.T) {
	for i, change := range []func(k *api.Kernel){
		func(k *api.Kernel) {},
		func(k *api.Kernel) { *k = kernel() },
		func(k *api.Kernel) { k.Held, k.Next = nil, 1 },
		func(k *api.Kernel) { k.Next = topTick },
		func(k *api.Kernel) { k.Next, k.Held[2].Id = topTick, topTick-1 },
		func(k *api.Kernel) { k.Held[0].Id, k.Held[1].Id, k.Held[2].Id, k.Next = 1, 2, 3, 4 },
		func(k *api.Kernel) { k.Held = k.Held[1:2] },
		// As many as may be.
		func(k *api.Kernel) {
			k.Held, k.Next = append(k.Held, of([]int{1}, nil), of([]int{2}, nil), of([]int{4}, []int{11, 13})), 13
			k.Held[3].Id, k.Held[4].Id, k.Held[5].Id = 10, 11, 12
		},
		// What is released does not count.
		func(k *api.Kernel) { k.Held[0].Gone, k.Held[1].Path.Steps[1].S = 2, 5 },
		func(k *api.Kernel) { k.Held[0].Open, k.Held[1].Over[0].S = true, 7 },
		func(k *api.Kernel) { k.Held[0].Gone, k.Held[1].Needs[1].P, k.Held[1].Needs[1].Pos = 1, 2, 1 },
		func(k *api.Kernel) { k.Held[2].Gone, k.Held[2].Needs[0].Pos = 1, 0 },
		// Machines: each way, the most ticks, and failed or not.
		func(k *api.Kernel) { k.Machines[9] = api.Machine{Want: 0, Run: 1000, Fail: true} },
		func(k *api.Kernel) { k.Machines[11] = api.Machine{Want: 1, Run: 0, Fail: true} },
		func(k *api.Kernel) { k.Machines = none() },
		// Of these the chapter does not ask: signals, exits, whether points are there, what the machines of points that are wanted do.
		func(k *api.Kernel) { k.Held[1].Path.Signal = k.Held[0].Path.Signal },
		func(k *api.Kernel) { k.Held[1].Path.Signal, k.Held[0].Path.Exit = -7, 99 },
		func(k *api.Kernel) { k.Machines[5] = api.Machine{Want: 1} },
	} {
		k := changed(change)
		if !free.Right(k) || len(broken(k)) != 0 {
			t.Errorf("case %d: %v may be: %v", i, k, broken(k))
		}
	}
}

// Each breaks one rule, by as little as can be, and by far.
func TestThoseThatMayNotBe(t *testing.T) {
	for i, x := range []struct {
		rule   string
		change func(k *api.Kernel)
	}{
		{"many", func(k *api.Kernel) {
			for n := range 4 {
				h := of([]int{14 + n}, nil)
				h.Id = 10 + n
				k.Held, k.Next = append(k.Held, h), 14
			}
		}},
		{"next", func(k *api.Kernel) { k.Next = topTick + 1 }},
		{"next", func(k *api.Kernel) { k.Next = math.MaxInt }},
		{"next", func(k *api.Kernel) { k.Held, k.Next = nil, 0 }},
		{"next", func(k *api.Kernel) { k.Held, k.Next = nil, -1 }},
		{"next", func(k *api.Kernel) { k.Held, k.Next = nil, math.MinInt }},
		{"below", func(k *api.Kernel) { k.Next = 9 }},
		{"below", func(k *api.Kernel) { k.Next = 1 }},
		{"below", func(k *api.Kernel) { k.Next, k.Held[2].Id = topTick, topTick }},
		{"rise", func(k *api.Kernel) { k.Held[1].Id = 4 }},
		{"rise", func(k *api.Kernel) { k.Held[2].Id = 5 }},
		{"rise", func(k *api.Kernel) { k.Held[0].Id = 9 }},
		{"rise", func(k *api.Kernel) { k.Held[0].Id, k.Held[1].Id, k.Held[2].Id = 9, 5, 4 }},
		{"route", func(k *api.Kernel) { k.Held[0].Id = 0 }},
		{"route", func(k *api.Kernel) { k.Held[0].Stage = 0 }},
		{"route", func(k *api.Kernel) { k.Held[1].Stage = 5 }},
		{"route", func(k *api.Kernel) { k.Held[2].Stage = 255 }},
		{"route", func(k *api.Kernel) { k.Held[0].Gone = 4 }},
		{"route", func(k *api.Kernel) { k.Held[1].Timer = -1 }},
		{"route", func(k *api.Kernel) { k.Held[2].Needs[0].K = 2 }},
		{"route", func(k *api.Kernel) { k.Held[2].Was[1] = true }},
		{"route", func(k *api.Kernel) { k.Held[2].Path.Steps = nil; k.Held[2].Needs = nil }},
		{"apart", func(k *api.Kernel) { k.Held[1].Path.Steps[1].S = 5 }},
		{"apart", func(k *api.Kernel) { k.Held[2].Path.Steps[0].S = 7 }},
		{"apart", func(k *api.Kernel) { k.Held[2].Path.Steps[0].S = 0 }},
		{"apart", func(k *api.Kernel) { k.Held[2].Over = through(10) }},
		{"apart", func(k *api.Kernel) { k.Held[1].Over[0].S = 3 }},
		{"apart", func(k *api.Kernel) { k.Held[1].Over[0].S = 7 }},
		{"apart", func(k *api.Kernel) { k.Held[2].Needs[0].Pos = 0 }},
		{"apart", func(k *api.Kernel) { k.Held[1].Needs[0].Pos = 0 }},
		{"apart", func(k *api.Kernel) { k.Held[1].Needs[2] = api.Need{P: 7, Pos: 0, K: 2} }},
		{"machine", func(k *api.Kernel) { k.Machines[0].Want = 2 }},
		{"machine", func(k *api.Kernel) { k.Machines[23].Want = -2 }},
		{"machine", func(k *api.Kernel) { k.Machines[0].Run = 1001 }},
		{"machine", func(k *api.Kernel) { k.Machines[23].Run = -1 }},
		{"machine", func(k *api.Kernel) { k.Machines[1].Run = 1 }},
		{"machine", func(k *api.Kernel) { k.Machines[1].Fail = true }},
		{"machine", func(k *api.Kernel) { k.Held, k.Machines[11] = nil, api.Machine{Want: 7} }},
	} {
		k := changed(x.change)
		if free.Right(k) || !slices.Equal(broken(k), []string{x.rule}) {
			t.Errorf("case %d: %v may not be, by %s alone: %v", i, k, x.rule, broken(k))
		}
	}
}

// wantRight tells of a kernel that may be, or not, by the chapter's words, and is told so wrongly.
func wantRight(t *testing.T, k api.Kernel) bool {
	t.Helper()
	right := free.Right(k)
	if right != (len(broken(k)) == 0) {
		t.Errorf("Right of %v is %v: %v", k, right, broken(k))
	}
	return right
}

// spots are those at which a kernel has numbers.
func spots(k *api.Kernel) []*int {
	all := []*int{&k.Next}
	for i := range k.Held {
		h := &k.Held[i]
		all = append(all, &h.Id, &h.Path.Signal, &h.Path.Exit, &h.Gone, &h.Timer)
		for _, steps := range [][]api.Step{h.Path.Steps, h.Over} {
			for n := range steps {
				all = append(all, &steps[n].S, &steps[n].In, &steps[n].Out)
			}
		}
		for n := range h.Needs {
			all = append(all, &h.Needs[n].P, &h.Needs[n].Pos, &h.Needs[n].K)
		}
	}
	for p := range k.Machines {
		all = append(all, &k.Machines[p].Want, &k.Machines[p].Run)
	}
	return all
}

// Each number by itself, by all edges.
func TestRightOfEachNumber(t *testing.T) {
	right, all := 0, 0
	some := []api.Kernel{base()}
	for seed := range uint32(5) {
		some = append(some, fair(roller(seed)))
	}
	for _, k := range some {
		for n := range spots(&k) {
			for _, x := range numbers() {
				other := free.Own(k)
				*spots(&other)[n] = x
				all++
				if wantRight(t, other) {
					right++
				}
			}
		}
	}
	if right < 3000 || all-right < 3000 {
		t.Errorf("too few: %d of %d may be", right, all)
	}
}

// Of six routes each two that are not apart, by sections, by the overlap, by needs; and each two whose numbers do not rise.
func TestRightOfEachTwoRoutes(t *testing.T) {
	six := func() api.Kernel {
		var all []api.Held
		for n := range topHeld {
			all = append(all, of([]int{3 * n, 3*n + 1}, []int{3*n + 2}, wants(23-n, 1)))
		}
		return kernel(all...)
	}
	if !free.Right(six()) {
		t.Fatal("six routes may be")
	}
	for a := range topHeld {
		for b := range topHeld {
			if a == b {
				continue
			}
			for i, change := range []func(x, y *api.Held){
				func(x, y *api.Held) { x.Path.Steps[1].S = y.Path.Steps[0].S },
				func(x, y *api.Held) { x.Over[0].S = y.Path.Steps[1].S },
				func(x, y *api.Held) { x.Over[0].S = y.Over[0].S },
				func(x, y *api.Held) { x.Needs[0] = wants(y.Needs[0].P, 0) },
				func(x, y *api.Held) { x.Id = y.Id },
				func(x, y *api.Held) { x.Id, y.Id = y.Id, x.Id },
			} {
				k := six()
				change(&k.Held[a], &k.Held[b])
				if wantRight(t, k) {
					t.Errorf("%d and %d, case %d: %v may not be", a, b, i, k)
				}
			}
		}
	}
}

func TestRightOfEachLength(t *testing.T) {
	for many := range 12 {
		var all []api.Held
		for n := range many {
			all = append(all, of([]int{n}, nil))
		}
		if wantRight(t, kernel(all...)) != (many <= 6) {
			t.Errorf("of %d routes", many)
		}
		for n := range all {
			k := kernel(all...)
			k.Held[n].Stage = uint8(5 * (n % 2))
			if wantRight(t, k) {
				t.Errorf("of %d routes the one at %d may not be", many, n)
			}
		}
	}
}

// Each machine by itself.
func TestRightOfEachMachine(t *testing.T) {
	for p := range rows {
		for want := -2; want < 3; want++ {
			for _, run := range []int{-1, 0, 1, 1000, 1001} {
				for _, fail := range []bool{false, true} {
					k := base()
					k.Machines[p] = api.Machine{Want: want, Run: run, Fail: fail}
					may := want == -1 && run == 0 && !fail || (want == 0 || want == 1) && run >= 0 && run <= 1000
					if wantRight(t, k) != may {
						t.Errorf("the machine at %d: %v", p, k.Machines[p])
					}
				}
			}
		}
	}
}

func TestRight(t *testing.T) {
	roll := roller(9)
	seen := map[string]int{}
	for n, k := range kernels(3000, 3) {
		if right := wantRight(t, k); n%3 == 0 && !right {
			t.Errorf("%v may be: %v", k, broken(k))
		}
		if why := broken(k); len(why) < 2 {
			seen[fmt.Sprint(n%3, why)]++
		}
		// One that may be, but for a number.
		near := fair(roll)
		*spots(&near)[roll(len(spots(&near)))] = roll(30) - 3
		wantRight(t, near)
		seen[fmt.Sprint("near ", broken(near))]++
	}
	for _, what := range []string{"0 []", "1 []", "1 [next]", "1 [route]", "near []", "near [route]", "near [rise]", "near [below]", "near [apart]", "near [machine]"} {
		if seen[what] < 10 {
			t.Errorf("too few: %s %d times", what, seen[what])
		}
	}
}

func TestOwnIsTheSame(t *testing.T) {
	for _, k := range append(kernels(300, 4), api.Kernel{}, base(), kernel()) {
		own := free.Own(k)
		if !free.Same(k, own) || !free.Same(own, k) || !free.Same(k, k) || fmt.Sprint(k) != fmt.Sprint(own) || free.Right(k) != free.Right(own) {
			t.Errorf("%v, of its own %v", k, own)
		}
	}
}

func TestSameByHand(t *testing.T) {
	for i, change := range []func(k *api.Kernel){
		func(k *api.Kernel) { k.Next++ },
		func(k *api.Kernel) { k.Held = k.Held[:2] },
		func(k *api.Kernel) { k.Held = k.Held[1:] },
		func(k *api.Kernel) { k.Held = nil },
		func(k *api.Kernel) { k.Held = append(k.Held, api.Held{}) },
		func(k *api.Kernel) { k.Held[0], k.Held[1] = k.Held[1], k.Held[0] },
		func(k *api.Kernel) { k.Held[2].Id = 8 },
		func(k *api.Kernel) { k.Held[0].Path.Signal++ },
		func(k *api.Kernel) { k.Held[1].Path.Steps[0].Out = 2 },
		func(k *api.Kernel) { k.Held[1].Over = nil },
		func(k *api.Kernel) { k.Held[0].Needs = k.Held[0].Needs[:3] },
		func(k *api.Kernel) { k.Held[2].Stage = 2 },
		func(k *api.Kernel) { k.Held[0].Gone = 1 },
		func(k *api.Kernel) { k.Held[0].Was[1] = true },
		func(k *api.Kernel) { k.Held[2].Open = true },
		func(k *api.Kernel) { k.Held[0].Timer = 7 },
		func(k *api.Kernel) { k.Held[1].Shown = true },
		func(k *api.Kernel) { k.Machines[0].Want = 0 },
		func(k *api.Kernel) { k.Machines[23].Run = 1 },
		func(k *api.Kernel) { k.Machines[5].Fail = false },
		func(k *api.Kernel) { k.Machines[22] = api.Machine{} },
		func(k *api.Kernel) { k.Machines[0], k.Machines[1] = k.Machines[1], k.Machines[0] },
	} {
		k := changed(change)
		if free.Same(k, base()) || free.Same(base(), k) {
			t.Errorf("case %d: %v is not the same", i, k)
		}
		if !free.Same(k, changed(change)) {
			t.Errorf("case %d: %v is the same", i, k)
		}
	}
	if !free.Same(base(), base()) || free.Same(base(), kernel()) || free.Same(kernel(), api.Kernel{}) {
		t.Error("the same")
	}
}

// Each number changed by itself, of kernels of all sorts.
func TestSameOfEachNumber(t *testing.T) {
	for _, k := range kernels(20, 5) {
		for n := range spots(&k) {
			other := free.Own(k)
			*spots(&other)[n] ^= 1 << (n % 60)
			if free.Same(k, other) || free.Same(other, k) || !free.Same(k, free.Own(k)) {
				t.Errorf("%v and %v are not the same", k, other)
			}
		}
		for p := range rows {
			other := k
			other.Machines[p].Fail = !k.Machines[p].Fail
			if free.Same(k, other) || free.Same(other, k) {
				t.Errorf("%v and %v are not the same", k, other)
			}
		}
	}
}

// P18.2

// A kernel of nothing, a new image: nothing is free.
func TestExample(t *testing.T) {
	for _, l := range anys() {
		for _, k := range []api.Kernel{{}, kernel()} {
			for _, s := range places() {
				if l.Times.Stale < 65535 && free.Free(l, image.New(), k, s) {
					t.Errorf("%d of %d sections is free", s, len(l.Sections))
				}
			}
		}
	}
}

func TestHolderByHand(t *testing.T) {
	for i, x := range []struct {
		k  api.Kernel
		s  int
		id int
		ok bool
	}{
		{base(), 3, 4, true}, {base(), 5, 4, true}, {base(), 6, 4, true}, {base(), 7, 4, true},
		{base(), 0, 5, true}, {base(), 23, 5, true}, {base(), 8, 5, true}, {base(), 10, 5, true}, {base(), 12, 9, true},
		{base(), 1, 0, false}, {base(), 2, 0, false}, {base(), 9, 0, false}, {base(), 22, 0, false}, {base(), 24, 0, false}, {base(), -1, 0, false}, {base(), math.MinInt, 0, false},
		{api.Kernel{}, 0, 0, false}, {kernel(), 0, 0, false},
		// What is released is not held.
		{kernel(at(of([]int{1, 2}, []int{3}), 1, false)), 1, 0, false},
		{kernel(at(of([]int{1, 2}, []int{3}), 1, false)), 2, 1, true},
		{kernel(at(of([]int{1, 2}, []int{3}), 2, false)), 3, 1, true},
		{kernel(at(of([]int{1, 2}, []int{3}), 1, true)), 3, 0, false},
		// Of several the first, in whatever stage, whatever its number.
		{kernel(of([]int{1}, nil), of([]int{2}, nil), of([]int{2}, nil)), 2, 2, true},
		{kernel(at(of([]int{2}, nil), 1, true), of([]int{1}, nil), in(1, of([]int{4}, []int{2})), of([]int{2}, nil)), 2, 3, true},
		{changed(func(k *api.Kernel) { k.Held[0].Id, k.Held[2].Path.Steps[0].S = 77, 3 }), 3, 77, true},
		{changed(func(k *api.Kernel) { k.Held[0].Id, k.Held[2].Path.Steps[0].S = -7, 3 }), 3, -7, true},
		{changed(func(k *api.Kernel) { k.Held[0].Id = 0 }), 3, 0, true},
		// Sections that no layout has may be held, too.
		{kernel(of([]int{-1, 24, math.MaxInt}, nil)), -1, 1, true},
		{kernel(of([]int{-1, 24, math.MaxInt}, nil)), math.MaxInt, 1, true},
	} {
		if id, ok := free.Holder(x.k, x.s); id != x.id || ok != x.ok {
			t.Errorf("case %d: of %d: %d, %v", i, x.s, id, ok)
		}
	}
}

func TestWantedAndLockedByHand(t *testing.T) {
	twice := of([]int{1, 2}, []int{3}, api.Need{P: 4, Pos: 1, K: 0}, api.Need{P: 4, Pos: 0, K: 1}, api.Need{P: 4, Pos: 7, K: 2})
	for i, x := range []struct {
		k          api.Kernel
		p, pos     int
		ok, locked bool
	}{
		{base(), 5, 0, true, true}, {base(), 2, 0, true, true}, {base(), 7, 1, true, true}, {base(), 9, 1, true, true},
		{base(), 23, 1, true, false}, {base(), 0, 0, true, false},
		// A section that is held is not wanted for that, nor is one whose machine is called.
		{base(), 3, 0, false, false}, {base(), 12, 0, false, false}, {base(), 1, 0, false, false}, {base(), -1, 0, false, false}, {base(), 24, 0, false, false}, {base(), math.MaxInt, 0, false, false},
		{api.Kernel{}, 0, 0, false, false},
		// By stages: all but one lock.
		{kernel(in(0, of([]int{1}, nil, wants(9, 1)))), 9, 1, true, true},
		{kernel(in(1, of([]int{1}, nil, wants(9, 1)))), 9, 1, true, false},
		{kernel(in(2, of([]int{1}, nil, wants(9, 1)))), 9, 1, true, true},
		{kernel(in(3, of([]int{1}, nil, wants(9, 1)))), 9, 1, true, true},
		{kernel(in(4, of([]int{1}, nil, wants(9, 1)))), 9, 1, true, true},
		{kernel(in(5, of([]int{1}, nil, wants(9, 1)))), 9, 1, true, true},
		{kernel(in(255, of([]int{1}, nil, wants(9, 1)))), 9, 1, true, true},
		// Of several: one that is not called locks, wherever it stands among them; one that does not want it does not.
		{kernel(in(1, of([]int{1}, nil, wants(9, 1))), of([]int{2}, nil, wants(9, 1))), 9, 1, true, true},
		{kernel(of([]int{1}, nil, wants(9, 1)), in(1, of([]int{2}, nil, wants(9, 1)))), 9, 1, true, true},
		{kernel(in(1, of([]int{1}, nil, wants(9, 1))), in(1, of([]int{2}, nil, wants(9, 1)))), 9, 1, true, false},
		{kernel(in(1, of([]int{1}, nil, wants(9, 1))), of([]int{9}, nil, wants(8, 1))), 9, 1, true, false},
		{kernel(in(1, of([]int{1}, nil, wants(9, 1))), at(of([]int{2, 3}, nil, wants(9, 1)), 1, false)), 9, 1, true, false},
		// Where several want it unlike: where the first one does.
		{kernel(of([]int{1}, nil, wants(9, 1)), of([]int{2}, nil, wants(9, 0))), 9, 1, true, true},
		{kernel(of([]int{1}, nil, wants(9, 0)), of([]int{2}, nil, wants(9, 1))), 9, 0, true, true},
		{kernel(at(of([]int{1, 3}, nil, wants(9, 0)), 1, false), of([]int{2}, nil, wants(9, 1))), 9, 1, true, true},
		{kernel(in(1, of([]int{1}, nil, wants(9, 0))), of([]int{2}, nil, wants(9, 1))), 9, 0, true, true},
		{kernel(twice), 4, 1, true, true}, {kernel(at(twice, 1, false)), 4, 0, true, true}, {kernel(at(twice, 2, false)), 4, 7, true, true},
		{kernel(at(twice, 2, true)), 4, 0, false, false}, {kernel(at(twice, 1, true)), 4, 0, true, true},
		// Points that no layout has, positions that no point has.
		{kernel(of([]int{1}, nil, wants(-9, -3))), -9, -3, true, true},
		{kernel(in(1, of([]int{1}, nil, wants(24, 5)))), 24, 5, true, false},
	} {
		if pos, ok := free.Wanted(x.k, x.p); pos != x.pos || ok != x.ok {
			t.Errorf("case %d: %d is wanted at %d, %v", i, x.p, pos, ok)
		}
		if got := free.Locked(x.k, x.p); got != x.locked {
			t.Errorf("case %d: %d is locked: %v", i, x.p, got)
		}
	}
}

func TestFreeByHand(t *testing.T) {
	l := yard()
	l.Times.Clear = 3
	im := sight(l, 1<<6, 2, 32)
	k := kernel(in(1, at(of([]int{0, 1}, []int{5}), 1, false)), at(of([]int{4}, []int{3}), 0, true))
	for s, want := range map[int]bool{0: true, 1: false, 2: true, 3: true, 4: false, 5: false, 6: false, 7: false, 23: false, 24: false, -1: false, math.MinInt: false, math.MaxInt: false} {
		if got := free.Free(l, im, k, s); got != want {
			t.Errorf("%d is free: %v", s, got)
		}
		// Where nothing is held all is free that is not occupied.
		if got := free.Free(l, im, kernel(), s); got != (s >= 0 && s < 6) {
			t.Errorf("%d is free, where nothing is held: %v", s, got)
		}
	}
	// Told clear for too short a time; then for long enough; then too old.
	im = image.Take(l, im, api.In{})
	for age, want := range []bool{false, false, true, true, false} {
		if got := free.Free(l, im, k, 6); got != want {
			t.Errorf("6 is free behind %d: %v", age, got)
		}
		if age < 2 {
			im = image.Take(l, im, api.In{})
		} else {
			im = image.Pass(l, im)
		}
	}
	if free.Free(api.Layout{}, im, kernel(), 0) {
		t.Error("a section that is not there is free")
	}
	// One that could be looked at, but has no number of a section.
	long := apart(1, 40)
	im = sight(long, 0, 0, 0)
	for s := -3; s < 44; s++ {
		if got := free.Free(long, im, kernel(), s); got != (s >= 0 && s < 24) {
			t.Errorf("of many sections %d is free: %v", s, got)
		}
	}
}

// Of one point: by all that it may be wanted at, locked or not, by where it stands, by its machine, by its section.
func TestMeetsOfAll(t *testing.T) {
	l := yard()
	seen := map[string]int{}
	// wishes are routes that want the point: none, one, or two; the first one's position and whether one locks.
	type wish struct {
		routes []api.Held
		pos    int
		locked bool
	}
	wishes := []wish{{nil, 9, false}}
	for pos := range 2 {
		called, set := in(1, of([]int{9}, nil, wants(5, pos))), of([]int{10}, nil, wants(5, pos))
		wishes = append(wishes,
			wish{[]api.Held{called}, pos, false}, wish{[]api.Held{set}, pos, true},
			wish{[]api.Held{called, set}, pos, true}, wish{[]api.Held{set, called}, pos, true}, wish{[]api.Held{called, called}, pos, false})
	}
	for _, x := range wishes {
		for stands := range 3 {
			for state := range 8 {
				occupied, isHeld, failed := state&1 == 1, state&2 == 2, state&4 == 4
				im := sight(l, uint32(state&1)<<5, []uint32{32, 0, 0}[stands], []uint32{0, 32, 0}[stands])
				k := kernel(x.routes...)
				if isHeld {
					k = kernel(append(x.routes, of([]int{5}, nil, wants(1, 0)))...)
				}
				k.Machines[5] = api.Machine{Want: stands % 2, Fail: failed}
				for pos := range 2 {
					want := stands == pos || !failed && !occupied && !isHeld
					if x.routes != nil {
						want = x.pos == pos && (stands == pos || !x.locked)
					}
					if got := free.Meets(l, im, k, api.Need{P: 5, Pos: pos, K: state}); got != want {
						t.Errorf("5 at %d, stands %d, held by %v, occupied %v, failed %v: %v", pos, stands, x.routes, occupied, failed, got)
					}
					seen[fmt.Sprint(x.routes != nil, want)]++
				}
				wantTold(t, "a point", l, im, k)
			}
		}
	}
	if len(seen) != 4 {
		t.Errorf("too few: %v", seen)
	}
}

func TestMeetsByHand(t *testing.T) {
	l, long := yard(), apart(2, 40)
	im := sight(l, 1, 2, 0)
	failed := func(p int) api.Kernel {
		k := kernel()
		k.Machines[p] = api.Machine{Want: 0, Run: 3, Fail: true}
		return k
	}
	for i, x := range []struct {
		l    api.Layout
		im   api.Image
		k    api.Kernel
		n    api.Need
		want bool
	}{
		{l, im, kernel(), wants(1, 0), true},
		{l, im, kernel(), wants(1, 1), true},
		{l, im, kernel(), wants(5, 0), true},
		// Whatever the step.
		{l, im, kernel(), api.Need{P: 1, Pos: 1, K: -3}, true},
		{l, im, failed(1), api.Need{P: 1, Pos: 1, K: math.MaxInt}, false},
		// It stands there, though its machine has failed, its section is occupied, or held.
		{l, im, failed(1), wants(1, 0), true},
		{l, sight(l, 2, 2, 0), failed(1), wants(1, 0), true},
		{l, im, kernel(of([]int{1}, nil)), wants(1, 0), true},
		// It does not.
		{l, im, failed(1), wants(1, 1), false},
		{l, sight(l, 2, 2, 0), kernel(), wants(1, 1), false},
		{l, im, kernel(of([]int{1}, nil)), wants(1, 1), false},
		{l, im, kernel(of([]int{0}, []int{1})), wants(1, 1), false},
		{l, im, kernel(at(of([]int{0}, []int{1}), 0, true)), wants(1, 1), true},
		// Another one's machine, another one's section does not matter.
		{l, im, failed(5), wants(1, 1), true},
		{l, im, kernel(of([]int{5, 0}, nil, wants(5, 1))), wants(1, 1), true},
		// A machine that may not be.
		{l, im, changed(func(k *api.Kernel) { *k = kernel(); k.Machines[1] = api.Machine{Want: -1, Run: 77} }), wants(1, 1), true},
		{l, im, changed(func(k *api.Kernel) { *k = kernel(); k.Machines[1] = api.Machine{Want: -9, Fail: true} }), wants(1, 1), false},
		// Wanted there and called: whatever the machine, and the section.
		{l, sight(l, 2, 2, 0), changed(func(k *api.Kernel) {
			*k = kernel(in(1, of([]int{1}, nil, wants(1, 1))))
			k.Machines[1] = api.Machine{Want: 1, Fail: true}
		}), wants(1, 1), true},
		// Wanted there and locked, but not known to stand.
		{l, sight(l, 0, 2, 2), kernel(of([]int{1}, nil, wants(1, 0))), wants(1, 0), false},
		{l, image.New(), kernel(of([]int{1}, nil, wants(1, 0))), wants(1, 0), false},
		{l, image.New(), kernel(in(1, of([]int{1}, nil, wants(1, 0)))), wants(1, 0), true},
		{l, image.New(), kernel(), wants(1, 0), false},
		// Of sections that are no points: they stand nowhere, their machines rest.
		{l, im, kernel(), wants(3, 0), true},
		{l, im, kernel(), wants(0, 0), false},
		{l, im, kernel(), wants(7, 0), false},
		{l, im, kernel(), wants(23, 1), false},
		// Numbers that no section can have, wanted or not.
		{l, im, kernel(), wants(-1, 0), false},
		{l, im, kernel(), wants(24, 0), false},
		{long, sight(long, 0, 1<<24|1<<23, 0), kernel(), wants(24, 0), false},
		{long, sight(long, 0, 1<<24|1<<23, 0), kernel(), wants(23, 0), true},
		{long, sight(long, 0, 0, 0), kernel(), wants(25, 1), false},
		{l, im, kernel(in(1, of([]int{1}, nil, wants(24, 1)))), wants(24, 1), false},
		{l, im, kernel(in(1, of([]int{1}, nil, wants(-1, 1)))), wants(-1, 1), false},
		{l, im, kernel(in(1, of([]int{1}, nil, wants(23, 1)))), wants(23, 1), true},
		{l, im, kernel(), wants(math.MinInt, 0), false},
		{l, im, kernel(), wants(math.MaxInt, 0), false},
		// Positions that no point has are held against each other as they stand: -1 is where a point stands of which nothing is known.
		{l, im, kernel(), wants(1, 7), true},
		{l, im, failed(1), wants(1, 7), false},
		{l, im, failed(1), wants(1, -1), false},
		{l, im, failed(5), wants(5, -1), true},
		{l, image.New(), failed(5), wants(5, -1), true},
		{l, im, kernel(in(1, of([]int{1}, nil, wants(1, 7)))), wants(1, 7), true},
		{l, im, kernel(of([]int{1}, nil, wants(1, 7))), wants(1, 7), false},
		{l, im, kernel(of([]int{1}, nil, wants(5, -1))), wants(5, -1), true},
	} {
		if got := free.Meets(x.l, x.im, x.k, x.n); got != x.want {
			t.Errorf("case %d: %v can be met: %v", i, x.n, got)
		}
		if got := claimed(x.k).isMet(x.l, x.im, x.k, x.n); got != x.want {
			t.Errorf("case %d: the reference", i)
		}
	}
}

func TestTold(t *testing.T) {
	roll := roller(6)
	some := kernels(4, 7)
	for i, l := range anys() {
		for n := range 6 {
			k := some[(i+n)%len(some)]
			wantTold(t, fmt.Sprint("layout ", i), l, looks(l, roll), k)
			wantTold(t, fmt.Sprint("layout ", i), l, sight(l, 0, 0, 0), fair(roll))
		}
	}
	for n, k := range kernels(100, 8) {
		l := apart(2, 24)
		wantTold(t, fmt.Sprint("kernel ", n), l, looks(l, roll), k)
	}
}

// P18.3

func TestCanByHand(t *testing.T) {
	l := yard()
	// Points 1 and 5 stand at normal, all is clear.
	im := sight(l, 0, 34, 0)
	// By 6 and 5, the point 1 reverse, 5 normal; by 2 and 3, with no overlap or one; from 4 by 2 and 5.
	round, through, far := to(0, 0, 1, 102, 601, 510), to(0, 5, 1, 101, 201, 301), to(1, 0, 401, 223, 520)
	failed := func(p int) api.Kernel {
		k := kernel()
		k.Machines[p] = api.Machine{Want: 1, Run: 3, Fail: true}
		return k
	}
	signal := func(sig int, stage uint8) api.Held {
		h := in(stage, of([]int{20}, nil))
		h.Path.Signal = sig
		return h
	}
	six := slices.Repeat([]api.Held{signal(9, 2)}, 6)
	for i, x := range []struct {
		im   api.Image
		k    api.Kernel
		p    api.Path
		want api.Errno
	}{
		{im, kernel(), round, 0}, {im, kernel(), far, 0},
		{im, api.Kernel{}, round, 0},
		// The flank at 3 wants 5 reverse: it can be driven there.
		{im, kernel(), through, 0}, {im, failed(5), through, 190}, {sight(l, 0, 2, 32), failed(5), through, 0},
		// Sections, one by one; others do not matter.
		{sight(l, 1, 34, 0), kernel(), round, 190}, {sight(l, 2, 32, 2), kernel(), round, 190}, {sight(l, 64, 34, 0), kernel(), round, 190}, {sight(l, 32, 34, 0), kernel(), round, 190},
		{sight(l, 4|8|16, 34, 0), kernel(), round, 0},
		{im, kernel(of([]int{0}, nil)), round, 190}, {im, kernel(of([]int{9}, []int{6})), round, 190}, {im, kernel(of([]int{2, 3}, []int{4})), round, 0},
		{im, kernel(at(of([]int{0, 9}, []int{6}), 1, true)), round, 0}, {im, kernel(at(of([]int{0, 9}, []int{6}), 1, false)), round, 190},
		{image.New(), kernel(), round, 190},
		// Needs: of the own point, of a flank, wanted elsewhere by another one, locked elsewhere, not to be driven.
		{im, failed(1), round, 190}, {sight(l, 0, 32, 2), failed(1), round, 0},
		{im, kernel(in(1, of([]int{9}, nil, wants(1, 0)))), round, 190}, {im, kernel(in(1, of([]int{9}, nil, wants(1, 1)))), round, 0},
		{im, kernel(of([]int{9}, nil, wants(1, 1))), round, 190}, {sight(l, 0, 32, 2), kernel(of([]int{9}, nil, wants(1, 1))), round, 0},
		{im, kernel(of([]int{9}, nil, wants(5, 0))), round, 0}, {im, kernel(of([]int{9}, nil, wants(5, 0))), through, 190},
		{im, kernel(of([]int{9}, nil, wants(4, 0))), round, 0},
		{im, kernel(of([]int{5}, nil)), through, 190}, {sight(l, 32, 34, 0), kernel(), through, 190}, {sight(l, 32, 2, 32), kernel(of([]int{5}, nil)), through, 0},
		// The overlap's sections and needs: of exit 2 that is 6 and 5, of which 6 wants 1 reverse; of exit 4 it is 3, which wants 5 reverse.
		{im, kernel(), to(0, 2, 1, 102), 0}, {sight(l, 32, 34, 0), kernel(), to(0, 2, 1, 102), 190}, {sight(l, 64, 34, 0), kernel(), to(0, 2, 1, 102), 190},
		{sight(l, 32, 34, 0), kernel(), to(0, 5, 1, 102), 0}, {sight(l, 32, 34, 0), kernel(), to(0, -1, 1, 102), 0}, {sight(l, 32, 34, 0), kernel(), to(0, math.MaxInt, 1, 102), 0},
		{im, kernel(of([]int{9}, []int{5})), to(0, 2, 1, 102), 190}, {im, failed(5), to(0, 4, 1, 101, 201), 190}, {im, failed(5), to(0, 5, 1, 101, 201), 0},
		{im, kernel(), to(0, 4, 1, 101, 201), 0}, {im, kernel(of([]int{9}, nil, wants(5, 0))), to(0, 4, 1, 101, 201), 190}, {sight(l, 0, 2, 32), failed(5), to(0, 4, 1, 101, 201), 0},
		// The signal: a route of it that does not run.
		{im, kernel(signal(0, 1)), round, 190}, {im, kernel(signal(0, 2)), round, 190}, {im, kernel(signal(0, 4)), round, 190},
		{im, kernel(signal(0, 3)), round, 0}, {im, kernel(signal(0, 0)), round, 190}, {im, kernel(signal(0, 5)), round, 190}, {im, kernel(signal(0, 255)), round, 190},
		{im, kernel(signal(1, 2)), round, 0}, {im, kernel(signal(1, 2)), far, 190}, {im, kernel(signal(0, 3), signal(0, 3), signal(0, 2)), round, 190}, {im, kernel(signal(0, 2), signal(0, 3)), round, 190},
		// Though it holds nothing any more.
		{im, kernel(at(signal(0, 2), 1, true)), round, 190},
		{im, kernel(signal(-5, 2)), to(-5, 0, 1), 190}, {im, kernel(signal(-5, 3)), to(-5, 0, 1), 0},
		// As many as there may be; then that is told behind all else.
		{im, kernel(six[:5]...), round, 0}, {im, kernel(six...), round, 191}, {im, kernel(append(six, six...)...), round, 191},
		{sight(l, 1, 34, 0), kernel(six...), round, 190}, {im, kernel(append(six, signal(0, 4))...), round, 190}, {im, kernel(append(six[:5:5], of([]int{9}, nil, wants(1, 0)))...), round, 190},
		{im, kernel(append(six[:5:5], of([]int{9}, nil, wants(4, 0)))...), round, 191},
		{im, kernel(append(six[:5:5], at(of([]int{9}, nil), 1, true))...), round, 191},
		// Paths of no steps, or of such as are not there: a step that is not there needs nothing, but its section is to be free.
		{im, kernel(), to(0, 0), 0}, {im, kernel(), api.Path{}, 0}, {im, kernel(six...), api.Path{}, 191}, {sight(l, 4, 34, 0), kernel(), to(0, 1), 190}, {im, kernel(), to(0, 1), 0},
		{im, failed(1), to(0, 5, 112), 0}, {im, kernel(), to(0, 5, 112, 377), 0}, {sight(l, 8, 34, 0), kernel(), to(0, 5, 377), 190}, {im, kernel(), to(0, 5, 701), 190}, {im, kernel(), api.Path{Steps: []api.Step{{S: -1, Out: 1}}}, 190},
		// That sections come twice, that its needs clash: of this nothing is asked here.
		{im, kernel(), to(0, 5, 1, 10, 1), 0}, {im, kernel(), to(0, 5, 101, 102), 0}, {im, failed(1), to(0, 5, 101, 102), 190},
		// An exit whose overlap is a section of the path.
		{im, kernel(), to(0, 3, 1, 101), 0},
	} {
		if got := free.Can(l, x.im, x.k, x.p); got != x.want {
			t.Errorf("case %d: %d, want %d", i, got, x.want)
		}
		if got := answer(causes(l, x.im, x.k, x.p)); got != x.want {
			t.Errorf("case %d: the reference: %v", i, causes(l, x.im, x.k, x.p))
		}
	}
}

// Each section of the longest path there may be, and of the overlap, by itself: held, or occupied.
func TestCanOfEachSection(t *testing.T) {
	l := apart(1, 24)
	for n := range 23 {
		tie(&l, api.Port{S: n, P: 1}, api.Port{S: n + 1, P: 0})
	}
	p := api.Path{Steps: through(3, 4, 5, 6, 7, 8, 9, 10, 11, 12, 13, 14)}
	l.Exits = []api.Exit{{At: api.Port{S: 14, P: 1}, Over: through(15, 16)}}
	for s := -2; s < 40; s++ {
		want := api.OK
		if s >= 3 && s <= 16 {
			want = 190
		}
		if got := free.Can(l, sight(l, 0, 0, 0), kernel(of([]int{s}, nil)), p); got != want {
			t.Errorf("%d is held: %d", s, got)
		}
		if got := free.Can(l, sight(l, 0, 0, 0), kernel(of([]int{50}, []int{51, s})), p); got != want {
			t.Errorf("%d is held by an overlap: %d", s, got)
		}
		if s >= 0 && s < 32 {
			if got := free.Can(l, sight(l, 1<<s, 0, 0), kernel(), p); got != want {
				t.Errorf("%d is occupied: %d", s, got)
			}
		}
	}
}

// Each flank of each step by itself.
func TestCanOfEachNeed(t *testing.T) {
	for s := range 8 {
		for p := 8; p < 24; p++ {
			l := apart(1, 24)
			for n := 8; n < 24; n++ {
				l.Sections[n].Kind = 2
			}
			l.Flanks = []api.Flank{{S: s, Way: 0, Point: p, Pos: 1}}
			l.Exits = []api.Exit{{Over: through(6, 7)}}
			path := api.Path{Steps: through(0, 1, 2, 3, 4, 5)}
			for q := 7; q < 26; q++ {
				want := api.OK
				if p == q {
					want = 190
				}
				if got := free.Can(l, sight(l, 0, math.MaxUint32, 0), kernel(of([]int{50}, nil, wants(q, 0))), path); got != want {
					t.Errorf("%d by a flank of %d, %d wanted elsewhere: %d", p, s, q, got)
				}
				if got := free.Can(l, sight(l, 0, 0, 0), kernel(of([]int{q}, nil)), path); got != want && q > 7 {
					t.Errorf("%d by a flank of %d, %d held: %d", p, s, q, got)
				}
			}
		}
	}
}

// busy is a kernel of few routes, most of which leave most of a layout alone.
func busy(l api.Layout, roll func(n int) int) api.Kernel {
	var all []api.Held
	for range roll(9) {
		h := of([]int{30 + roll(9)}, nil)
		h.Stage, h.Path.Signal = []uint8{1, 2, 3, 4, 3, 1, 2, 0}[roll(8)], roll(6)
		if roll(5) == 0 {
			h.Path.Steps, h.Over = through(roll(10), roll(10)), through(roll(10))
			h.Gone, h.Open = roll(4)-1, roll(2) == 0
		}
		if roll(3) == 0 {
			h.Needs = append(h.Needs, api.Need{P: roll(10), Pos: roll(2), K: roll(3)})
		}
		all = append(all, h)
	}
	k := kernel(all...)
	for range roll(4) {
		k.Machines[roll(10)] = api.Machine{Want: roll(2), Run: 4, Fail: true}
	}
	return k
}

// rolled is a path by a rule: of steps most of which are there, one of which goes on from the other or not.
func rolled(l api.Layout, roll func(n int) int) api.Path {
	p := api.Path{Signal: roll(9), Exit: roll(len(l.Exits)+2) - 1}
	all := steps(l)
	switch {
	case len(all) > 0 && roll(3) > 0:
		first := all[roll(len(all))]
		p.Steps = append(p.Steps, first)
		if first.S < len(l.Sections) {
			p.Steps = append(p.Steps, walked(l, api.Port{S: first.S, P: first.Out}, roll(5), roll)...)
		}
	case len(all) > 0:
		for range roll(4) {
			p.Steps = append(p.Steps, all[roll(len(all))])
		}
	}
	if roll(12) == 0 {
		p.Steps = append(p.Steps, api.Step{S: numbers()[roll(len(numbers()))], In: roll(4), Out: roll(4)})
	}
	return p
}

func TestCan(t *testing.T) {
	roll := roller(10)
	seen := map[string]int{}
	for i, l := range anys() {
		for n := range 150 {
			k, im := busy(l, roll), looks(l, roll)
			switch n % 10 {
			case 0:
				k = fair(roll)
			case 1:
				k = small(roll)
			case 2:
				k = wild(roll)
			case 3, 4, 5:
				im = sight(l, 0, math.MaxUint32, 0)
			}
			why := wantCan(t, fmt.Sprint("layout ", i), l, im, k, rolled(l, roll))
			seen[fmt.Sprint(why)]++
		}
	}
	for _, what := range []string{"[]", "[signal]", "[section]", "[overlap]", "[need]", "[full]", "[signal full]", "[section full]", "[overlap full]", "[need full]", "[section overlap]", "[signal section]"} {
		if seen[what] < 15 {
			t.Errorf("too few: %s %d times", what, seen[what])
		}
	}
}

// P18.4

// In kernels that may be each section has one holder at most, and each point is wanted at one position.
func TestOneHolderAndOnePosition(t *testing.T) {
	isHeld, isWanted := 0, 0
	for n, k := range kernels(1500, 11) {
		if !free.Right(k) {
			continue
		}
		for s := -2; s < rows+2; s++ {
			var ids, ways []int
			for _, h := range k.Held {
				if held.Has(h, s) {
					ids = append(ids, h.Id)
				}
				if pos, ok := held.Wants(h, s); ok {
					ways = append(ways, pos)
				}
			}
			id, ok := free.Holder(k, s)
			if len(ids) > 1 || ok != (len(ids) == 1) || ok && id != ids[0] {
				t.Errorf("kernel %d: %d is held by %v, told %d, %v", n, s, ids, id, ok)
			}
			pos, wanted := free.Wanted(k, s)
			if len(slices.Compact(ways)) > 1 || wanted != (len(ways) > 0) || wanted && pos != ways[0] {
				t.Errorf("kernel %d: %d is wanted at %v, told %d, %v", n, s, ways, pos, wanted)
			}
			if free.Locked(k, s) && !wanted {
				t.Errorf("kernel %d: %d is locked, and not wanted", n, s)
			}
			isHeld, isWanted = isHeld+len(ids), isWanted+len(ways)
		}
	}
	if isHeld < 5000 || isWanted < 2000 {
		t.Errorf("too few: %d, %d", isHeld, isWanted)
	}
}

func TestNothingIsFreeWhenStale(t *testing.T) {
	roll := roller(12)
	all := 0
	for _, l := range anys() {
		for range 5 {
			im, k := looks(l, roll), fair(roll)
			for range 5 {
				im = image.Pass(l, im)
			}
			if !image.Stale(l, im) {
				continue
			}
			for _, s := range places() {
				if free.Free(l, im, k, s) || free.Free(l, im, kernel(), s) {
					t.Errorf("%d is free", s)
				}
			}
			p := rolled(l, roll)
			if len(p.Steps) > 0 && free.Can(l, im, k, p) != 190 {
				t.Errorf("%v can be had", p)
			}
			all++
		}
	}
	if all < 300 {
		t.Errorf("too few: %d", all)
	}
}

// asked is a path as a route that is held, as it would be at first.
func asked(l api.Layout, id int, p api.Path) api.Held {
	h := api.Held{Id: id, Path: p, Needs: need.Of(l, p), Stage: 1}
	if p.Exit >= 0 && p.Exit < len(l.Exits) {
		h.Over = l.Exits[p.Exit].Over
	}
	return h
}

// goesOn is a kernel some time later: some of its routes are set, run, or go back, some have released more, and those that hold nothing are gone.
func goesOn(k api.Kernel, roll func(n int) int) api.Kernel {
	var all []api.Held
	for _, h := range k.Held {
		switch roll(4) {
		case 0:
			h.Stage = min(h.Stage+1, 4)
		case 1:
			h.Gone = min(h.Gone+1, len(h.Path.Steps))
		case 2:
			h.Open = h.Open || roll(3) == 0
		}
		if !held.Over(h) {
			all = append(all, h)
		}
	}
	k.Held = all
	k.Machines = machines(roll)
	return k
}

// Tales of routes that are had, one behind the other: each two are apart.
func TestWithARouteMore(t *testing.T) {
	roll := roller(13)
	had, several, shared := 0, 0, 0
	for i, l := range anys() {
		k := kernel()
		for range 60 {
			p := rolled(l, roll)
			im := sight(l, word(roll)&word(roll)&word(roll)&word(roll), math.MaxUint32, 0)
			if roll(3) == 0 {
				im = sight(l, 0, 0, math.MaxUint32)
			}
			h := asked(l, k.Next, p)
			if free.Can(l, im, k, p) == api.OK && held.Right(h) {
				for _, other := range k.Held {
					if !held.Apart(other, h) || !areApart(other, h) {
						t.Errorf("layout %d: %v and %v are not apart", i, other, h)
					}
					if len(need.Points(append(slices.Clone(other.Needs), h.Needs...)...)) < len(need.Points(other.Needs...))+len(need.Points(h.Needs...)) {
						shared++
					}
				}
				k.Held, k.Next = append(k.Held, h), k.Next+1
				had++
				several += len(k.Held) / 2
			}
			if !wantRight(t, k) {
				t.Errorf("layout %d: %v may not be: %v", i, k, broken(k))
			}
			if roll(3) > 0 {
				k = goesOn(k, roll)
			}
		}
	}
	if had < 500 || several < 200 || shared < 20 {
		t.Errorf("too few: %d, %d, %d", had, several, shared)
	}
}

// Of any kernel that may be: a route that can be had is apart from each of it.
func TestWhatCanBeHadIsApart(t *testing.T) {
	roll := roller(14)
	had := 0
	for i, l := range anys() {
		for n := range 60 {
			k, p, im := fair(roll), rolled(l, roll), sight(l, 0, math.MaxUint32, 0)
			if n%2 == 0 {
				im = looks(l, roll)
			}
			if free.Can(l, im, k, p) != api.OK {
				continue
			}
			for _, other := range k.Held {
				if h := asked(l, k.Next, p); !areApart(other, h) {
					t.Errorf("layout %d: %v and %v are not apart", i, other, h)
				}
				had++
			}
		}
	}
	if had < 300 {
		t.Errorf("too few: %d", had)
	}
}

// R1, R3, R4 (R1's wrong numbers: all of the above; R2: no call answers anything beside its error)

func TestLongListsEnd(t *testing.T) {
	const many = 200000
	l := apart(2, 24)
	im := sight(l, 0, 0, 0)
	var k api.Kernel
	for n := range many {
		k.Held = append(k.Held, in(3, of([]int{100 + n}, []int{100 + many + n}, wants(100+n, n))))
		k.Held[n].Id = n + 1
	}
	k.Next = many + 1
	own := free.Own(k)
	if free.Right(k) || !free.Same(k, own) {
		t.Error("many routes")
	}
	if id, ok := free.Holder(k, 99+2*many); id != many || !ok {
		t.Error("the holder among many")
	}
	if pos, ok := free.Wanted(k, 99+many); pos != many-1 || !ok || !free.Locked(k, 99+many) || free.Locked(k, 23) || !free.Free(l, im, k, 23) || !free.Meets(l, im, k, wants(23, 1)) {
		t.Error("wanted among many")
	}
	// A path that goes on for very long, all whose sections are free, all whose needs can be met; flanks, too.
	p := api.Path{}
	for n := range many {
		p.Steps = append(p.Steps, api.Step{S: n % 24, In: 0, Out: 1 + n/24%2})
	}
	for n := range 16 {
		l.Flanks = append(l.Flanks, api.Flank{S: n, Way: n % 2, Point: n + 8, Pos: 1})
	}
	if free.Can(l, im, k, p) != api.ErrFull || free.Can(l, im, kernel(), p) != api.OK {
		t.Error("a long path")
	}
	k.Held[many-1].Over[0].S = 23
	if free.Can(l, im, k, p) != api.ErrTaken || free.Same(k, own) {
		t.Error("a long path, the last route holds a section of it")
	}
	k.Held[many-1].Over[0].S, k.Held[many-1].Needs[0].P = 99, 7
	if free.Can(l, im, k, p) != api.ErrTaken {
		t.Error("a long path, the last route wants a point of it")
	}
	k.Held[many-1].Needs[0].P, k.Held[many-1].Path.Signal, k.Held[many-1].Stage = 99, 0, 4
	if free.Can(l, im, k, p) != api.ErrTaken {
		t.Error("a long path, the last route is one of its signal")
	}
	// Many flanks of one step, and a long overlap.
	l.Flanks, l.Exits = nil, []api.Exit{{Over: p.Steps}}
	for n := range many {
		l.Flanks = append(l.Flanks, api.Flank{S: 5, Way: 0, Point: 6, Pos: n})
	}
	k.Held[many-1].Stage = 3
	if free.Can(l, im, k, to(0, -1, 501)) != api.ErrFull || free.Can(l, im, k, to(0, -1, 501, 701)) != api.ErrFull {
		t.Error("many flanks")
	}
	l.Flanks = nil
	if free.Can(l, im, k, api.Path{}) != api.ErrFull || free.Can(l, sight(l, 1<<23, 0, 0), k, api.Path{}) != api.ErrTaken {
		t.Error("a long overlap")
	}
	// Six routes, each of many steps, or of many needs.
	long := kernel(slices.Repeat([]api.Held{{Path: p, Over: p.Steps, Stage: 1}}, 6)...)
	if free.Right(long) || !free.Same(long, free.Own(long)) {
		t.Error("six long routes")
	}
	var six []api.Held
	for n := range topHeld {
		six = append(six, of([]int{n}, nil, slices.Repeat([]api.Need{wants(n, 1), wants(20, 0)}, many/8)...))
	}
	if !free.Right(kernel(six...)) {
		t.Error("six routes of many needs")
	}
}

func TestNilIsEmpty(t *testing.T) {
	l, p := yard(), to(0, 5, 1, 101)
	im := sight(l, 0, 34, 0)
	bare := api.Held{Id: 1, Path: api.Path{Signal: 4, Steps: through(9)}, Stage: 2}
	full := bare
	full.Over, full.Needs = make([]api.Step, 0, 3), []api.Need{}
	for i, x := range [][2][]api.Held{{nil, {}}, {nil, make([]api.Held, 0, 9)}, {{bare}, {full}}} {
		a, b := kernel(x[0]...), kernel(x[1]...)
		a.Held, b.Held = x[0], x[1]
		if !free.Same(a, b) || !free.Same(b, a) || !free.Right(a) || !free.Right(b) || !free.Same(free.Own(b), a) {
			t.Errorf("case %d: not the same", i)
		}
		wantTold(t, fmt.Sprint("case ", i), l, im, b)
		if free.Can(l, im, a, p) != api.OK || free.Can(l, im, b, p) != api.OK || free.Can(l, im, b, api.Path{Signal: 0, Exit: 0, Steps: []api.Step{}}) != api.OK {
			t.Errorf("case %d: it can be had", i)
		}
	}
	wantTold(t, "nothing", api.Layout{}, api.Image{}, api.Kernel{})
	if free.Can(api.Layout{}, api.Image{}, api.Kernel{}, api.Path{}) != api.OK {
		t.Error("nothing can be had where nothing is")
	}
}

// tell is what all calls tell, as text.
func tell(l api.Layout, im api.Image, k api.Kernel, p api.Path) string {
	all := fmt.Sprintln(free.Right(k), free.Own(k), free.Same(k, free.Own(k)), free.Can(l, im, k, p))
	for s := -1; s < 26; s++ {
		id, ok := free.Holder(k, s)
		pos, wanted := free.Wanted(k, s)
		all += fmt.Sprintln(id, ok, pos, wanted, free.Locked(k, s), free.Free(l, im, k, s), free.Meets(l, im, k, wants(s, 0)), free.Meets(l, im, k, wants(s, 1)))
	}
	return all
}

func TestAnswersHangOnTheirArgumentsAlone(t *testing.T) {
	roll := roller(15)
	l, k, p := yard(), base(), to(0, 2, 1, 102)
	im := sight(l, 0, 34, 0)
	was := tell(l, im, k, p)
	for n, x := range anys() {
		tell(x, looks(x, roll), kernels(1, uint32(n))[n%3], rolled(x, roll))
		if now := tell(l, im, k, p); now != was {
			t.Fatalf("behind calls by %d: %s, then %s", n, was, now)
		}
	}
}

// roomy is a list in memory of its own, with spare room behind it.
func roomy[T any](all []T) []T {
	return append(slices.Clip(slices.Clone(all)), make([]T, 20)...)[:len(all)]
}

// wide is a list as long as there is room.
func wide[T any](all []T) []T { return all[:cap(all)] }

// spoil writes over all of a list, its spare room, too.
func spoil[T any](all []T, by T) {
	for n := range wide(all) {
		wide(all)[n] = by
	}
}

// spoilAll writes over all lists of a kernel.
func spoilAll(k api.Kernel) {
	for _, h := range k.Held {
		spoil(h.Path.Steps, api.Step{S: 77})
		spoil(h.Over, api.Step{S: 78})
		spoil(h.Needs, api.Need{P: 79})
	}
	spoil(k.Held, api.Held{Id: 76})
}

// spacious is a kernel in memory of its own, with spare room behind its lists.
func spacious(k api.Kernel) api.Kernel {
	k.Held = roomy(k.Held)
	for n, h := range k.Held {
		k.Held[n].Path.Steps, k.Held[n].Over, k.Held[n].Needs = roomy(h.Path.Steps), roomy(h.Over), roomy(h.Needs)
	}
	return k
}

// whole is what is handed in, as text, with all spare room.
func whole(l api.Layout, k api.Kernel, p api.Path) string {
	all := fmt.Sprint(k.Next, k.Machines, wide(k.Held), p, wide(p.Steps), l.Times, wide(l.Sections), wide(l.Signals), wide(l.Exits), wide(l.Flanks))
	for _, h := range k.Held {
		all += fmt.Sprint(wide(h.Path.Steps), wide(h.Over), wide(h.Needs))
	}
	for _, e := range l.Exits {
		all += fmt.Sprint(wide(e.Over))
	}
	return all
}

// What was handed in stays, its spare room, too, though what is told of it is written over.
func TestArgumentsStay(t *testing.T) {
	roll := roller(16)
	for n, l := range anys() {
		k, p, im := spacious(kernels(1, uint32(n))[n%3]), rolled(l, roll), looks(l, roll)
		p.Steps = roomy(p.Steps)
		l.Sections, l.Signals, l.Exits, l.Flanks = roomy(l.Sections), roomy(l.Signals), roomy(l.Exits), roomy(l.Flanks)
		for x := range l.Exits {
			l.Exits[x].Over = roomy(l.Exits[x].Over)
		}
		was, told := whole(l, k, p), tell(l, im, k, p)
		spoilAll(free.Own(k))
		if whole(l, k, p) != was {
			t.Errorf("layout %d: what was handed in has changed: %s, then %s", n, was, whole(l, k, p))
		}
		if tell(l, im, k, p) != told {
			t.Errorf("layout %d: what is told has changed", n)
		}
	}
}

func TestAnswersShareNothing(t *testing.T) {
	for n, k := range append(kernels(60, 17), base()) {
		k = spacious(k)
		was := fmt.Sprint(k)
		a, b := free.Own(k), free.Own(k)
		spoilAll(a)
		if fmt.Sprint(k) != was || fmt.Sprint(b) != was {
			t.Errorf("kernel %d: %s, then %v, %v", n, was, k, b)
		}
		// What was told stays when the kernel that was handed in is written over: nothing of it is kept.
		spoilAll(k)
		if fmt.Sprint(b) != was || fmt.Sprint(free.Own(b)) != was {
			t.Errorf("kernel %d: an answer shares memory with what was handed in", n)
		}
	}
}
