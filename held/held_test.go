package held_test

import (
	"fmt"
	"math"
	"slices"
	"testing"

	"lockbar/api"
	"lockbar/held"
)

// The limits are written out here, so that a wrong one would be seen.
const (
	topTick = 1 << 30
	topPath = 12
	topOver = 2
	rows    = 24
)

// numbers are such as lie at the edges, far beyond them, and in between.
func numbers() []int {
	return []int{math.MinInt, math.MinInt + 1, math.MinInt32, -1001, -256, -13, -2, -1, 0, 1, 2, 3, 4, 5, 11, 12, 13, 22, 23, 24, 25, 255, 256, 1000, 1001, 65535, 65536, topTick - 1, topTick, topTick + 1, math.MaxInt32, math.MaxUint32, 1 << 32, 1<<32 + 1, 1 << 62, math.MaxInt - 1, math.MaxInt}
}

// roller gives numbers from 0 to below n by a rule of its own, so that they are the same each time.
func roller(seed uint32) func(n int) int {
	return func(n int) int {
		seed = seed*1664525 + 1013904223
		return int(seed>>16) % n
	}
}

// through are steps through these sections.
func through(sections ...int) []api.Step {
	var all []api.Step
	for _, s := range sections {
		all = append(all, api.Step{S: s, In: 0, Out: 1})
	}
	return all
}

// base is a route that may be: of sections 3, 5, 6, and 7 of the overlap.
func base() api.Held {
	return api.Held{
		Id: 4, Path: api.Path{Signal: 2, Exit: 1, Steps: through(3, 5, 6)}, Over: through(7),
		Needs: []api.Need{{P: 5, Pos: 0, K: 1}, {P: 9, Pos: 1, K: 1}, {P: 6, Pos: 1, K: 2}, {P: 2, Pos: 0, K: 0}, {P: 7, Pos: 1, K: 3}, {P: 9, Pos: 1, K: 3}},
		Stage: 3, Was: [12]bool{true, true, true}, Timer: 8, Shown: true,
	}
}

// changed is it with something else.
func changed(change func(h *api.Held)) api.Held {
	h := base()
	change(&h)
	return h
}

// at is it with so many of its path's sections released, its overlap, too, or not.
func at(h api.Held, gone int, open bool) api.Held {
	h.Gone, h.Open = gone, open
	return h
}

// of is a route through these sections.
func of(path, over []int, needs ...api.Need) api.Held {
	return api.Held{Id: 1, Path: api.Path{Steps: through(path...)}, Over: through(over...), Needs: needs, Stage: 2}
}

// dealt are numbers from 0 to below rows, each once, in an order that is rolled.
func dealt(roll func(n int) int) []int {
	var all []int
	for n := range rows {
		at := roll(n + 1)
		all = slices.Insert(all, at, n)
	}
	return all
}

// fair is a route by numbers that may be.
func fair(roll func(n int) int) api.Held {
	all, stands := dealt(roll), roll(1<<15)|roll(1<<9)<<15
	many, over := 1+roll(topPath), roll(topOver+1)
	h := of(all[:many], all[many:many+over])
	h.Id, h.Stage, h.Gone, h.Timer = 1+roll(40), uint8(1+roll(4)), roll(many+1), roll(30)
	h.Path.Signal, h.Path.Exit, h.Open, h.Shown = roll(12), roll(12), roll(3) == 0, roll(2) == 0
	for n := range many {
		h.Was[n] = roll(2) == 0
	}
	for range roll(12) {
		p := roll(rows)
		h.Needs = append(h.Needs, api.Need{P: p, Pos: stands >> p & 1, K: roll(many + 1)})
	}
	return h
}

// small is a route by few numbers: most such may not be, and most two of them meet.
func small(roll func(n int) int) api.Held {
	var lists [2][]int
	for n, most := range []int{6, 4} {
		for range roll(most) {
			lists[n] = append(lists[n], roll(14)-1)
		}
	}
	h := of(lists[0], lists[1])
	h.Id, h.Stage, h.Gone, h.Timer, h.Open = roll(4), uint8(roll(6)), roll(9)-2, roll(5)-1, roll(2) == 0
	for range roll(7) {
		h.Needs = append(h.Needs, api.Need{P: roll(7) - 1, Pos: roll(7)/2 - 1, K: roll(9) - 2})
	}
	if roll(4) == 0 {
		h.Was[roll(topPath)] = true
	}
	return h
}

// wild is a route of numbers of all sorts.
func wild(roll func(n int) int) api.Held {
	any := func() int { return numbers()[roll(len(numbers()))] }
	h := api.Held{Id: any(), Path: api.Path{Signal: any(), Exit: any()}, Stage: uint8(roll(256)), Gone: any(), Open: roll(2) == 0, Timer: any()}
	for range roll(16) {
		h.Path.Steps = append(h.Path.Steps, api.Step{S: any(), In: any(), Out: any()})
	}
	for range roll(5) {
		h.Over = append(h.Over, api.Step{S: any(), In: any(), Out: any()})
	}
	for range roll(20) {
		h.Needs = append(h.Needs, api.Need{P: any(), Pos: any(), K: any()})
	}
	return h
}

// mixed are a great many of each sort.
func mixed(many int, seed uint32) []api.Held {
	roll := roller(seed)
	var all []api.Held
	for range many {
		all = append(all, fair(roll), small(roll), wild(roll))
	}
	return all
}

// The reference: the chapter's words, by other means than the package's.

// broken are the chapter's rules that a route breaks.
func broken(h api.Held) []string {
	var all []string
	rule := func(name string, holds bool) {
		if !holds {
			all = append(all, name)
		}
	}
	many := len(h.Path.Steps)
	rule("id", h.Id > 0 && h.Id <= topTick)
	rule("steps", many > 0 && many <= topPath)
	rule("over", len(h.Over) <= topOver)
	seen := map[int]bool{}
	for _, steps := range [][]api.Step{h.Path.Steps, h.Over} {
		for _, s := range steps {
			rule("twice", !seen[s.S])
			seen[s.S] = true
		}
	}
	rule("stage", h.Stage == 1 || h.Stage == 2 || h.Stage == 3 || h.Stage == 4)
	rule("gone", h.Gone >= 0 && h.Gone <= many)
	for n, was := range h.Was {
		rule("was", !was || n < many)
	}
	rule("timer", h.Timer >= 0 && h.Timer <= topTick)
	way := map[int]int{}
	for _, n := range h.Needs {
		rule("needs", n.K >= 0 && n.K <= many && n.P >= 0 && n.P < rows && (n.Pos == 0 || n.Pos == 1))
		if pos, ok := way[n.P]; ok {
			rule("clash", pos == n.Pos)
		}
		way[n.P] = n.Pos
	}
	return slices.Compact(all)
}

// heldBy are the sections that are still held: of the path all that are left when one by one was released.
func heldBy(h api.Held) []int {
	all := slices.Clone(h.Path.Steps)
	for gone := h.Gone; gone > 0 && len(all) > 0; gone-- {
		all = all[1:]
	}
	if !h.Open {
		all = append(all, h.Over...)
	}
	var sections []int
	for _, s := range all {
		sections = append(sections, s.S)
	}
	return sections
}

// neededBy are the needs that still hold: all but those that do not.
func neededBy(h api.Held) []api.Need {
	return slices.DeleteFunc(slices.Clone(h.Needs), func(n api.Need) bool {
		return n.K < 0 || n.K < h.Gone || n.K == len(h.Path.Steps) && h.Open
	})
}

// areApart tells whether two are: each section, each need of one is held against each of the other.
func areApart(a, b api.Held) bool {
	meet := 0
	for _, s := range heldBy(a) {
		for _, q := range heldBy(b) {
			if s == q {
				meet++
			}
		}
	}
	for _, n := range neededBy(a) {
		for _, m := range neededBy(b) {
			if n.P == m.P && n.Pos != m.Pos {
				meet++
			}
		}
	}
	return meet == 0
}

// wantTold tells of answers that a route does not give by the chapter's words.
func wantTold(t *testing.T, what string, h api.Held) {
	t.Helper()
	sections, needs := heldBy(h), neededBy(h)
	if got := held.Sections(h); !slices.Equal(got, sections) {
		t.Errorf("%s, %v: sections %v, want %v", what, h, got, sections)
	}
	if got := held.Needs(h); !slices.Equal(got, needs) {
		t.Errorf("%s, %v: needs %v, want %v", what, h, got, needs)
	}
	whole := at(h, 0, false)
	for _, s := range append(numbers(), heldBy(whole)...) {
		if got := held.Has(h, s); got != slices.Contains(sections, s) {
			t.Errorf("%s, %v: Has of %d is %v", what, h, s, got)
		}
	}
	for _, n := range append(neededBy(whole), many(numbers())...) {
		pos, ok := 0, false
		for _, x := range slices.Backward(needs) {
			if x.P == n.P {
				pos, ok = x.Pos, true
			}
		}
		if got, yes := held.Wants(h, n.P); got != pos || yes != ok {
			t.Errorf("%s, %v: Wants of %d is %d, %v, want %d, %v", what, h, n.P, got, yes, pos, ok)
		}
	}
	if got := held.Over(h); got != (len(heldBy(at(h, h.Gone, true))) == 0 && h.Open) {
		t.Errorf("%s, %v: Over is %v", what, h, got)
	}
}

// many are needs of these points.
func many(points []int) []api.Need {
	var all []api.Need
	for _, p := range points {
		all = append(all, api.Need{P: p})
	}
	return all
}

// wantApart tells of two routes that are told to be apart, or not, wrongly, either way about.
func wantApart(t *testing.T, what string, a, b api.Held, want bool) {
	t.Helper()
	if x, y := held.Apart(a, b), held.Apart(b, a); x != want || y != want {
		t.Errorf("%s: %v and %v: apart %v, the other way about %v, want %v", what, a, b, x, y, want)
	}
}

// P17.1

func TestLimitsAreThoseOfTheApi(t *testing.T) {
	if api.MaxTick != topTick || api.MaxPath != topPath || api.MaxOver != topOver || api.MaxSections != rows {
		t.Error("the limits are others")
	}
	if api.HtCall != 1 || api.HtSet != 2 || api.HtRun != 3 || api.HtBack != 4 || api.Stages != 5 {
		t.Error("the stages are others")
	}
}

func TestThoseThatMayBe(t *testing.T) {
	for i, change := range []func(h *api.Held){
		func(h *api.Held) {},
		func(h *api.Held) { h.Id = 1 },
		func(h *api.Held) { h.Id = topTick },
		func(h *api.Held) { h.Timer = 0 },
		func(h *api.Held) { h.Timer = topTick },
		func(h *api.Held) { h.Stage = 1 },
		func(h *api.Held) { h.Stage = 4 },
		func(h *api.Held) { h.Gone = 1 },
		func(h *api.Held) { h.Gone = 3 },
		func(h *api.Held) { h.Gone, h.Open = 3, true },
		func(h *api.Held) { h.Open, h.Shown = true, false },
		func(h *api.Held) { h.Was = [12]bool{} },
		func(h *api.Held) { h.Was = [12]bool{false, false, true} },
		func(h *api.Held) { h.Over, h.Needs = nil, nil },
		func(h *api.Held) { h.Over = through(7, 8) },
		func(h *api.Held) { h.Over = through(0, 23) },
		// The longest that may be.
		func(h *api.Held) {
			h.Path.Steps, h.Over = through(0, 1, 2, 3, 4, 5, 6, 7, 8, 9, 10, 11), through(12, 13)
			h.Gone, h.Was = 12, [12]bool{11: true}
			h.Needs = []api.Need{{P: 23, Pos: 1, K: 12}, {P: 0, Pos: 0, K: 11}}
		},
		// The shortest.
		func(h *api.Held) { h.Path.Steps, h.Needs, h.Was = through(3), nil, [12]bool{true} },
		// A need that is there twice, of two steps, one way.
		func(h *api.Held) {
			h.Needs = append(h.Needs, api.Need{P: 5, Pos: 0, K: 1}, api.Need{P: 5, Pos: 0, K: 3})
		},
		func(h *api.Held) { h.Needs = []api.Need{{P: 23, Pos: 1, K: 3}, {P: 0, Pos: 0, K: 0}} },
		// Of these the chapter does not ask.
		func(h *api.Held) { h.Path.Signal, h.Path.Exit = -1, 77 },
		func(h *api.Held) { h.Path.Steps = []api.Step{{S: -1, In: 9, Out: 9}, {S: 24}, {S: math.MaxInt}} },
		func(h *api.Held) { h.Over = []api.Step{{S: math.MinInt, In: -5, Out: 77}} },
	} {
		h := changed(change)
		if !held.Right(h) || len(broken(h)) != 0 {
			t.Errorf("case %d: %v may be: %v", i, h, broken(h))
		}
	}
}

// Each breaks one rule, by as little as can be, and by far.
func TestThoseThatMayNotBe(t *testing.T) {
	for i, x := range []struct {
		rule   string
		change func(h *api.Held)
	}{
		{"id", func(h *api.Held) { h.Id = 0 }},
		{"id", func(h *api.Held) { h.Id = -1 }},
		{"id", func(h *api.Held) { h.Id = topTick + 1 }},
		{"id", func(h *api.Held) { h.Id = math.MaxInt }},
		{"steps", func(h *api.Held) { h.Path.Steps, h.Needs, h.Was = nil, nil, [12]bool{} }},
		{"steps", func(h *api.Held) { h.Path.Steps = through(0, 1, 2, 3, 4, 5, 6, 8, 9, 10, 11, 12, 13) }},
		{"over", func(h *api.Held) { h.Over = through(7, 8, 9) }},
		{"over", func(h *api.Held) { h.Over = through(7, 8, 9, 10, 11, 12, 13, 14) }},
		{"twice", func(h *api.Held) { h.Path.Steps = through(3, 5, 3) }},
		{"twice", func(h *api.Held) { h.Path.Steps = through(3, 5, 5) }},
		{"twice", func(h *api.Held) { h.Path.Steps[0] = api.Step{S: 6, In: 1, Out: 0} }},
		{"twice", func(h *api.Held) { h.Over = through(3) }},
		{"twice", func(h *api.Held) { h.Over = through(6) }},
		{"twice", func(h *api.Held) { h.Over = through(7, 5) }},
		{"twice", func(h *api.Held) { h.Over = through(7, 7) }},
		// What is released counts here, too.
		{"twice", func(h *api.Held) { h.Over, h.Gone = through(3), 1 }},
		{"twice", func(h *api.Held) { h.Over, h.Open = through(7, 7), true }},
		{"stage", func(h *api.Held) { h.Stage = 0 }},
		{"stage", func(h *api.Held) { h.Stage = 5 }},
		{"stage", func(h *api.Held) { h.Stage = 255 }},
		{"gone", func(h *api.Held) { h.Gone = -1 }},
		{"gone", func(h *api.Held) { h.Gone = 4 }},
		{"gone", func(h *api.Held) { h.Gone = math.MinInt }},
		{"gone", func(h *api.Held) { h.Gone = 12 }},
		{"was", func(h *api.Held) { h.Was[3] = true }},
		{"was", func(h *api.Held) { h.Was[11] = true }},
		{"was", func(h *api.Held) { h.Was = [12]bool{7: true} }},
		{"timer", func(h *api.Held) { h.Timer = -1 }},
		{"timer", func(h *api.Held) { h.Timer = topTick + 1 }},
		{"timer", func(h *api.Held) { h.Timer = math.MinInt }},
		{"needs", func(h *api.Held) { h.Needs[0].K = -1 }},
		{"needs", func(h *api.Held) { h.Needs[5].K = 4 }},
		{"needs", func(h *api.Held) { h.Needs[3].P = -1 }},
		{"needs", func(h *api.Held) { h.Needs[4].P = 24 }},
		{"needs", func(h *api.Held) { h.Needs[2].Pos = 2 }},
		{"needs", func(h *api.Held) { h.Needs[2].Pos = -1 }},
		// It does not hold any more, and may not be nevertheless.
		{"needs", func(h *api.Held) { h.Needs[3].P, h.Gone = -1, 3 }},
		{"clash", func(h *api.Held) { h.Needs[1].Pos = 0 }},
		{"clash", func(h *api.Held) { h.Needs[0].P, h.Needs[2].P = 4, 4 }},
		{"clash", func(h *api.Held) { h.Needs[1].Pos, h.Gone = 0, 2 }},
		{"clash", func(h *api.Held) { h.Needs[5].Pos, h.Open = 0, true }},
	} {
		h := changed(x.change)
		if held.Right(h) || !slices.Equal(broken(h), []string{x.rule}) {
			t.Errorf("case %d: %v may not be, by %s alone: %v", i, h, x.rule, broken(h))
		}
	}
}

// wantRight tells of a route that may be, or not, by the chapter's words, and is told so wrongly.
func wantRight(t *testing.T, h api.Held) bool {
	t.Helper()
	right := held.Right(h)
	if right != (len(broken(h)) == 0) {
		t.Errorf("Right of %v is %v: %v", h, right, broken(h))
	}
	return right
}

// places are those at which a route has numbers.
func places(h *api.Held) []*int {
	all := []*int{&h.Id, &h.Path.Signal, &h.Path.Exit, &h.Gone, &h.Timer}
	for _, steps := range [][]api.Step{h.Path.Steps, h.Over} {
		for n := range steps {
			all = append(all, &steps[n].S, &steps[n].In, &steps[n].Out)
		}
	}
	for n := range h.Needs {
		all = append(all, &h.Needs[n].P, &h.Needs[n].Pos, &h.Needs[n].K)
	}
	return all
}

// Each number by itself, by all edges.
func TestRightOfEachNumber(t *testing.T) {
	right, all := 0, 0
	for seed := range uint32(12) {
		h := fair(roller(seed))
		for n := range places(&h) {
			for _, x := range numbers() {
				other := held.Own(h)
				*places(&other)[n] = x
				all++
				if wantRight(t, other) {
					right++
				}
			}
		}
	}
	if right < 3000 || all-right < 3000 {
		t.Errorf("too few: %d of %d may be", right, all)
	}
}

func TestRightOfEachStage(t *testing.T) {
	for stage := range 256 {
		h := changed(func(h *api.Held) { h.Stage = uint8(stage) })
		if wantRight(t, h) != (stage >= 1 && stage <= 4) {
			t.Errorf("stage %d", stage)
		}
	}
}

// All lengths of path and overlap, by all there may be of Gone, and by each of Was alone.
func TestRightOfAllLengths(t *testing.T) {
	all := dealt(roller(1))
	for many := range 16 {
		for over := range 5 {
			h := of(all[:many], all[many:many+over])
			for gone := -2; gone < many+3; gone++ {
				if wantRight(t, at(h, gone, false)) != (many >= 1 && many <= 12 && over <= 2 && gone >= 0 && gone <= many) {
					t.Errorf("%d steps, %d of the overlap, %d released", many, over, gone)
				}
			}
			for n := range topPath {
				h.Was = [12]bool{}
				h.Was[n] = true
				if wantRight(t, h) != (many > n && many <= 12 && over <= 2) {
					t.Errorf("%d steps, %d was occupied", many, n)
				}
			}
		}
	}
}

// Each two sections alike, of path and overlap.
func TestRightOfEachTwoAlike(t *testing.T) {
	all := dealt(roller(2))
	for many := 1; many <= topPath; many++ {
		for over := range topOver + 1 {
			for n := range many + over {
				for m := range n {
					row := slices.Clone(all[:many+over])
					row[n] = row[m]
					h := of(row[:many], row[many:])
					h.Path.Steps[m%many].In = 1
					if wantRight(t, h) {
						t.Errorf("%v may not be: %d and %d are alike", h, m, n)
					}
				}
			}
		}
	}
}

// All rows of up to three needs of few numbers.
func TestRightOfAllRowsOfNeeds(t *testing.T) {
	var some []api.Need
	for p := -1; p < 2; p++ {
		for pos := -1; pos < 3; pos++ {
			for k := -1; k < 4; k++ {
				some = append(some, api.Need{P: p, Pos: pos, K: k})
			}
		}
	}
	seen := map[bool]int{}
	for _, a := range some {
		seen[wantRight(t, of([]int{1, 2}, nil, a))]++
		for _, b := range some {
			seen[wantRight(t, of([]int{1, 2}, nil, a, b))]++
			for k, p := range []int{0, 1, 0, 1} {
				c := api.Need{P: p, Pos: k / 2, K: 0}
				seen[wantRight(t, of([]int{1, 2}, nil, a, b, c))]++
			}
		}
	}
	if seen[true] < 300 || seen[false] < 3000 {
		t.Errorf("too few: %v", seen)
	}
}

func TestRight(t *testing.T) {
	seen := map[string]int{}
	for n, h := range mixed(12000, 3) {
		if right := wantRight(t, h); n%3 == 0 && !right {
			t.Errorf("%v may be", h)
		}
		if why := broken(h); len(why) < 2 {
			seen[fmt.Sprint(n%3, why)]++
		}
	}
	for _, what := range []string{"0 []", "1 []", "1 [id]", "1 [stage]", "1 [gone]", "1 [timer]"} {
		if seen[what] < 10 {
			t.Errorf("too few: %s %d times", what, seen[what])
		}
	}
}

func TestOwnIsTheSame(t *testing.T) {
	for _, h := range append(mixed(500, 4), api.Held{}, base()) {
		own := held.Own(h)
		if !held.Same(h, own) || !held.Same(own, h) || !held.Same(h, h) || fmt.Sprint(h) != fmt.Sprint(own) || held.Right(h) != held.Right(own) {
			t.Errorf("%v, of its own %v", h, own)
		}
	}
}

func TestSameByHand(t *testing.T) {
	for i, change := range []func(h *api.Held){
		func(h *api.Held) { h.Id++ },
		func(h *api.Held) { h.Path.Signal++ },
		func(h *api.Held) { h.Path.Exit-- },
		func(h *api.Held) { h.Path.Steps[2].S = 8 },
		func(h *api.Held) { h.Path.Steps[0].In = 2 },
		func(h *api.Held) { h.Path.Steps[1].Out = 2 },
		func(h *api.Held) { h.Path.Steps = h.Path.Steps[:2] },
		func(h *api.Held) { h.Path.Steps = through(5, 3, 6) },
		func(h *api.Held) { h.Path.Steps = nil },
		func(h *api.Held) { h.Over[0].S = 8 },
		func(h *api.Held) { h.Over[0].Out = 2 },
		func(h *api.Held) { h.Over = through(7, 8) },
		func(h *api.Held) { h.Over = nil },
		func(h *api.Held) { h.Path.Steps, h.Over = through(3, 5), through(6, 7) },
		func(h *api.Held) { h.Needs[0].P = 4 },
		func(h *api.Held) { h.Needs[3].Pos = 1 },
		func(h *api.Held) { h.Needs[5].K = 2 },
		func(h *api.Held) { h.Needs = h.Needs[:5] },
		func(h *api.Held) { h.Needs[0], h.Needs[1] = h.Needs[1], h.Needs[0] },
		func(h *api.Held) { h.Needs = nil },
		func(h *api.Held) { h.Stage = 2 },
		func(h *api.Held) { h.Gone = 1 },
		func(h *api.Held) { h.Was[0] = false },
		func(h *api.Held) { h.Was[11] = true },
		func(h *api.Held) { h.Was[0], h.Was[3] = false, true },
		func(h *api.Held) { h.Open = true },
		func(h *api.Held) { h.Timer = 9 },
		func(h *api.Held) { h.Shown = false },
	} {
		h := changed(change)
		if held.Same(h, base()) || held.Same(base(), h) {
			t.Errorf("case %d: %v is not the same", i, h)
		}
		if !held.Same(h, changed(change)) {
			t.Errorf("case %d: %v is the same", i, h)
		}
	}
	if !held.Same(base(), base()) {
		t.Error("the same")
	}
}

// Each number and each of Was changed by itself, of routes of all sorts.
func TestSameOfEachNumber(t *testing.T) {
	for _, h := range mixed(60, 5) {
		for n := range places(&h) {
			other := held.Own(h)
			*places(&other)[n] ^= 1 << (n % 60)
			if held.Same(h, other) || held.Same(other, h) || !held.Same(h, held.Own(h)) {
				t.Errorf("%v and %v are not the same", h, other)
			}
		}
		for n := range topPath {
			other := h
			other.Was[n] = !h.Was[n]
			if held.Same(h, other) || held.Same(other, h) {
				t.Errorf("%v and %v are not the same", h, other)
			}
		}
	}
}

// P17.2

func TestExample(t *testing.T) {
	if got := held.Sections(at(of([]int{3, 5}, []int{7}), 1, false)); !slices.Equal(got, []int{5, 7}) {
		t.Errorf("still held are %v", got)
	}
}

func TestToldByHand(t *testing.T) {
	needs := base().Needs
	for i, x := range []struct {
		gone     int
		open     bool
		sections []int
		needs    []api.Need
		over     bool
	}{
		{0, false, []int{3, 5, 6, 7}, needs, false},
		{-1, false, []int{3, 5, 6, 7}, needs, false},
		{math.MinInt, false, []int{3, 5, 6, 7}, needs, false},
		{1, false, []int{5, 6, 7}, []api.Need{needs[0], needs[1], needs[2], needs[4], needs[5]}, false},
		{2, false, []int{6, 7}, []api.Need{needs[2], needs[4], needs[5]}, false},
		{3, false, []int{7}, needs[4:], false},
		{4, false, []int{7}, nil, false},
		{math.MaxInt, false, []int{7}, nil, false},
		{0, true, []int{3, 5, 6}, needs[:4], false},
		{-9, true, []int{3, 5, 6}, needs[:4], false},
		{1, true, []int{5, 6}, needs[:3], false},
		{2, true, []int{6}, needs[2:3], false},
		{3, true, nil, nil, true},
		{4, true, nil, nil, true},
		{math.MaxInt, true, nil, nil, true},
	} {
		h := at(base(), x.gone, x.open)
		if got := held.Sections(h); !slices.Equal(got, x.sections) {
			t.Errorf("case %d: sections %v, want %v", i, got, x.sections)
		}
		if got := held.Needs(h); !slices.Equal(got, x.needs) {
			t.Errorf("case %d: needs %v, want %v", i, got, x.needs)
		}
		if got := held.Over(h); got != x.over {
			t.Errorf("case %d: over %v", i, got)
		}
		for s := -2; s < 26; s++ {
			if got := held.Has(h, s); got != slices.Contains(x.sections, s) {
				t.Errorf("case %d: Has of %d is %v", i, s, got)
			}
		}
	}
}

func TestWantsByHand(t *testing.T) {
	for _, x := range []struct {
		gone int
		open bool
		p    int
		pos  int
		ok   bool
	}{
		{0, false, 5, 0, true}, {0, false, 9, 1, true}, {0, false, 2, 0, true}, {0, false, 7, 1, true},
		{0, false, 3, 0, false}, {0, false, -1, 0, false}, {0, false, 24, 0, false}, {0, false, math.MaxInt, 0, false},
		{1, false, 2, 0, false}, {1, false, 5, 0, true}, {2, false, 5, 0, false},
		// What its overlap wants, too, it still wants behind the step.
		{2, false, 9, 1, true}, {3, false, 9, 1, true}, {2, true, 9, 0, false}, {1, true, 9, 1, true},
		{0, true, 7, 0, false}, {3, true, 7, 0, false}, {4, false, 7, 0, false}, {-4, true, 2, 0, true},
	} {
		if pos, ok := held.Wants(at(base(), x.gone, x.open), x.p); pos != x.pos || ok != x.ok {
			t.Errorf("%v: %d, %v", x, pos, ok)
		}
	}
	// The first of those that still hold, where they want it several ways.
	h := of([]int{1, 2}, []int{3}, api.Need{P: 4, Pos: 1, K: 0}, api.Need{P: 4, Pos: 0, K: 2}, api.Need{P: 4, Pos: 7, K: 1})
	for i, x := range []struct {
		gone int
		open bool
		pos  int
		ok   bool
	}{{0, false, 1, true}, {1, false, 0, true}, {2, false, 0, true}, {0, true, 1, true}, {1, true, 7, true}, {2, true, 0, false}} {
		if pos, ok := held.Wants(at(h, x.gone, x.open), 4); pos != x.pos || ok != x.ok {
			t.Errorf("case %d: %d, %v", i, pos, ok)
		}
	}
}

// Such as may not be: sections that stand twice, no steps, needs of steps that are not there.
func TestToldOfOddOnesByHand(t *testing.T) {
	for i, x := range []struct {
		h        api.Held
		sections []int
		needs    int
		over     bool
	}{
		{api.Held{}, nil, 0, false},
		{api.Held{Open: true}, nil, 0, true},
		{api.Held{Open: true, Gone: -3}, nil, 0, true},
		// Twice in the path: by the later step it is still held.
		{at(of([]int{3, 5, 3}, nil), 1, false), []int{5, 3}, 0, false},
		{at(of([]int{3, 5, 3}, nil), 0, false), []int{3, 5, 3}, 0, false},
		{at(of([]int{3, 3}, []int{3, 3}), 1, false), []int{3, 3, 3}, 0, false},
		{at(of([]int{3}, []int{3}), 1, false), []int{3}, 0, false},
		{at(of([]int{3}, []int{3}), 1, true), nil, 0, true},
		{at(of([]int{3}, []int{3}), 0, true), []int{3}, 0, false},
		// A need of a step that is not there holds, whatever becomes of the overlap.
		{at(of([]int{1}, nil, api.Need{K: 2}, api.Need{K: 1}), 0, true), []int{1}, 1, false},
		{at(of([]int{1}, nil, api.Need{K: 2}, api.Need{K: 1}), 1, true), nil, 1, true},
		{at(of([]int{1}, nil, api.Need{K: 2}, api.Need{K: 1}), 2, false), nil, 1, false},
		{at(of([]int{1}, nil, api.Need{K: 2}, api.Need{K: 1}), 3, false), nil, 0, false},
		// Gone below 0 counts as 0: so what is below 0 does not hold.
		{at(of([]int{1}, nil, api.Need{K: -1}, api.Need{K: 0}, api.Need{K: -2}), -2, false), []int{1}, 1, false},
		// Without steps the overlap's needs are those of 0.
		{of(nil, []int{4, 2}, api.Need{K: 0}, api.Need{K: 1}), []int{4, 2}, 2, false},
		{at(of(nil, []int{4, 2}, api.Need{K: 0}, api.Need{K: 1}), 0, true), nil, 1, true},
		{at(of([]int{-5, 24, math.MaxInt}, []int{math.MinInt, 99, 1}), 1, false), []int{24, math.MaxInt, math.MinInt, 99, 1}, 0, false},
	} {
		if got := held.Sections(x.h); !slices.Equal(got, x.sections) || len(held.Needs(x.h)) != x.needs || held.Over(x.h) != x.over {
			t.Errorf("case %d: %v, %v, %v", i, got, held.Needs(x.h), held.Over(x.h))
		}
		for _, s := range numbers() {
			if held.Has(x.h, s) != slices.Contains(x.sections, s) {
				t.Errorf("case %d: Has of %d", i, s)
			}
		}
		wantTold(t, fmt.Sprint("case ", i), x.h)
	}
}

func TestTold(t *testing.T) {
	seen := map[string]int{}
	for n, h := range mixed(600, 6) {
		wantTold(t, fmt.Sprint("route ", n), h)
		seen[fmt.Sprint(n%3, held.Over(h), len(held.Sections(h)) > 0, len(held.Needs(h)) > 0)]++
	}
	for _, what := range []string{"0 false true true", "0 false true false", "0 true false false", "1 false true true", "1 true false true", "1 false false false", "2 false true true", "2 true false true"} {
		if seen[what] < 10 {
			t.Errorf("too few: %s %d times", what, seen[what])
		}
	}
}

// Each route by all numbers of those released, with the overlap and without.
func TestToldByAllThatWereReleased(t *testing.T) {
	for n, h := range mixed(25, 7) {
		all := numbers()
		for gone := -2; gone <= len(h.Path.Steps)+2; gone++ {
			all = append(all, gone)
		}
		for _, gone := range all {
			wantTold(t, fmt.Sprint("route ", n), at(h, gone, false))
			wantTold(t, fmt.Sprint("route ", n), at(h, gone, true))
		}
	}
}

// What a route has beside steps' sections, needs, Gone and Open does not matter to what is told of it.
func TestTheRestDoesNotMatter(t *testing.T) {
	for n, h := range mixed(300, 8) {
		other := held.Own(h)
		other.Id, other.Stage, other.Timer, other.Shown, other.Was = -7, 9, -1, !h.Shown, [12]bool{11: true}
		other.Path.Signal, other.Path.Exit = 99, -99
		for _, steps := range [][]api.Step{other.Path.Steps, other.Over} {
			for k := range steps {
				steps[k].In, steps[k].Out = k, -k
			}
		}
		if !slices.Equal(held.Sections(h), held.Sections(other)) || !slices.Equal(held.Needs(h), held.Needs(other)) || held.Over(h) != held.Over(other) || held.Apart(base(), h) != held.Apart(base(), other) {
			t.Errorf("route %d: %v, %v", n, h, other)
		}
	}
}

// P17.3

func TestApartByHand(t *testing.T) {
	need := func(p, pos, k int) api.Need { return api.Need{P: p, Pos: pos, K: k} }
	for i, x := range []struct {
		a, b api.Held
		want bool
	}{
		{of([]int{1, 2}, nil), of([]int{3, 4}, nil), true},
		{of([]int{1, 2}, nil), of([]int{3, 2}, nil), false},
		{of([]int{1, 2}, []int{5}), of([]int{3, 5}, nil), false},
		{of([]int{1, 2}, []int{5, 6}), of([]int{3}, []int{7, 6}), false},
		{of([]int{1, 2}, []int{5, 6}), of([]int{3}, []int{7, 8}), true},
		// What is released does not count.
		{at(of([]int{1, 2}, nil), 1, false), of([]int{3, 1}, nil), true},
		{at(of([]int{1, 2}, nil), 1, false), of([]int{3, 2}, nil), false},
		{at(of([]int{1, 2}, nil), 2, false), of([]int{1, 2}, nil), true},
		{at(of([]int{1}, []int{5}), 1, false), of([]int{5}, nil), false},
		{at(of([]int{1}, []int{5}), 0, true), of([]int{5}, nil), true},
		{at(of([]int{1}, []int{5}), 0, true), of([]int{5, 1}, nil), false},
		// Points: one way both, or the one the one way, the other one the other way.
		{of([]int{1}, nil, need(9, 1, 0)), of([]int{2}, nil, need(9, 1, 0)), true},
		{of([]int{1}, nil, need(9, 1, 0)), of([]int{2}, nil, need(9, 0, 0)), false},
		{of([]int{1}, nil, need(9, 1, 0)), of([]int{2}, nil, need(8, 0, 0)), true},
		{of([]int{1}, nil, need(9, 1, 0), need(8, 0, 0)), of([]int{2}, nil, need(7, 0, 0), need(8, 1, 0)), false},
		{at(of([]int{1, 3}, nil, need(9, 1, 0)), 1, false), of([]int{2}, nil, need(9, 0, 0)), true},
		{at(of([]int{1, 3}, nil, need(9, 1, 1)), 1, false), of([]int{2}, nil, need(9, 0, 0)), false},
		{at(of([]int{1}, []int{4}, need(9, 1, 1)), 1, false), of([]int{2}, nil, need(9, 0, 0)), false},
		{at(of([]int{1}, []int{4}, need(9, 1, 1)), 0, true), of([]int{2}, nil, need(9, 0, 0)), true},
		// A section is no point: one's section may be the other one's point.
		{of([]int{1}, nil, need(2, 1, 0)), of([]int{2}, nil, need(1, 0, 0)), true},
		// One that wants a point both ways is not apart from who wants it at all, and from who does not it is.
		{of([]int{1}, nil, need(9, 0, 0), need(9, 1, 0)), of([]int{2}, nil, need(9, 0, 0)), false},
		{of([]int{1}, nil, need(9, 0, 0), need(9, 1, 0)), of([]int{2}, nil, need(9, 1, 0)), false},
		{of([]int{1}, nil, need(9, 0, 0), need(9, 1, 0)), of([]int{2}, nil, need(8, 1, 0)), true},
		{of([]int{1}, nil, need(9, 0, 0), need(9, 1, 0)), of([]int{2}, nil, need(9, 1, 0), need(9, 0, 0)), false},
		{of([]int{1, 1}, nil), of([]int{2, 2}, nil), true},
		// Other positions than 0 and 1 are held against each other as they stand.
		{of([]int{1}, nil, need(9, 2, 0)), of([]int{2}, nil, need(9, 2, 0)), true},
		{of([]int{1}, nil, need(9, 2, 0)), of([]int{2}, nil, need(9, -2, 0)), false},
		{of([]int{1}, nil, need(-9, 1, 0)), of([]int{2}, nil, need(-9, 0, 0)), false},
		{of([]int{1}, nil, need(9, 0, 0), need(9, 2, 0)), of([]int{2}, nil, need(9, 1, 0)), false},
		// Of nothing.
		{api.Held{}, api.Held{}, true}, {api.Held{}, base(), true}, {base(), base(), false},
		{at(base(), 3, true), base(), true}, {at(base(), 3, true), at(base(), 3, true), true}, {at(base(), 3, false), at(base(), 0, true), true},
		{at(base(), 3, false), base(), false}, {at(base(), -3, true), at(base(), 2, true), false},
	} {
		wantApart(t, fmt.Sprint("case ", i), x.a, x.b, x.want)
		if areApart(x.a, x.b) != x.want {
			t.Errorf("case %d: the reference", i)
		}
	}
}

// Each two of all routes of few sections, points and steps.
func TestApartOfAllSmall(t *testing.T) {
	var all []api.Held
	for _, path := range [][]int{nil, {0}, {1}, {0, 1}, {1, 0}} {
		for _, over := range [][]int{nil, {0}, {1}} {
			for n := range 7 {
				h := of(path, over)
				if n > 0 {
					h.Needs = []api.Need{{P: 0, Pos: n % 2, K: (n - 1) / 2}}
				}
				for gone := range 3 {
					all = append(all, at(h, gone, false), at(h, gone, true))
				}
			}
		}
	}
	seen := map[bool]int{}
	for _, a := range all {
		for _, b := range all {
			want := areApart(a, b)
			if got := held.Apart(a, b); got != want {
				t.Errorf("%v and %v: apart %v", a, b, got)
			}
			seen[want]++
		}
	}
	if seen[true] < 10000 || seen[false] < 10000 {
		t.Errorf("too few: %v", seen)
	}
}

// Each section of the one against each of the other, and each need, by itself.
func TestApartOfEachByItself(t *testing.T) {
	for n := range topPath + topOver {
		for m := range topPath + topOver {
			a, b := make([]int, topPath+topOver), make([]int, topPath+topOver)
			for k := range a {
				a[k], b[k] = k, k+100
			}
			wantApart(t, "no section both", of(a[:12], a[12:]), of(b[:12], b[12:]), true)
			b[m] = a[n]
			for gone := range topPath + 1 {
				want := n < gone && n < topPath
				wantApart(t, fmt.Sprint("section ", n, " and ", m, " behind ", gone), at(of(a[:12], a[12:]), gone, false), of(b[:12], b[12:]), want)
			}
		}
	}
	for k := range 4 {
		for gone := range 5 {
			for _, open := range []bool{false, true} {
				a := at(of([]int{1, 2, 3}, nil, api.Need{P: 7, Pos: 1}, api.Need{P: 6, K: k}), gone, open)
				b := of([]int{4}, []int{5}, api.Need{P: 7, Pos: 1}, api.Need{P: 6, Pos: 1, K: 1})
				wantApart(t, fmt.Sprint("of step ", k), a, b, k < gone || k == 3 && open)
			}
		}
	}
}

func TestApart(t *testing.T) {
	roll := roller(9)
	seen := map[string]int{}
	for n := range 30000 {
		what := []string{"fair", "small", "wild"}[n%3]
		make := map[string]func(func(int) int) api.Held{"fair": fair, "small": small, "wild": wild}[what]
		a, b := make(roll), make(roll)
		if what == "fair" && roll(3) > 0 {
			a.Path.Steps, b.Path.Steps, a.Over, b.Over = through(1), through(2), nil, nil
		}
		want := areApart(a, b)
		wantApart(t, what, a, b, want)
		sections := areApart(of(heldBy(a), nil), of(heldBy(b), nil))
		seen[fmt.Sprint(what, " ", sections, " ", want)]++
	}
	for _, what := range []string{"fair", "small", "wild"} {
		for _, by := range []string{"true true", "true false", "false false"} {
			if seen[what+" "+by] < 100 {
				t.Errorf("too few: %s %s %d times", what, by, seen[what+" "+by])
			}
		}
	}
}

// P17.4

// goesOn is what becomes of a route: Gone goes on, one by one, and at some time, or at the end, Open comes.
func goesOn(h api.Held, when int) []api.Held {
	all := []api.Held{h}
	for h.Gone < len(h.Path.Steps) {
		if h.Gone >= when && !h.Open {
			h.Open = true
		} else {
			h.Gone++
		}
		all = append(all, h)
	}
	h.Open = true
	return append(all, h)
}

// among tells whether each of some is among all.
func among[T comparable](some, all []T) bool {
	return !slices.ContainsFunc(some, func(x T) bool { return !slices.Contains(all, x) })
}

func TestNothingComes(t *testing.T) {
	for n, h := range mixed(400, 10) {
		if n%3 == 2 {
			h.Gone = n % 4
		}
		row := goesOn(h, n%14)
		for k, on := range row[1:] {
			was := row[k]
			if !among(held.Sections(on), held.Sections(was)) || !among(held.Needs(on), held.Needs(was)) || held.Over(was) && !held.Over(on) {
				t.Errorf("route %d: %v, then %v", n, was, on)
			}
			if len(held.Sections(on)) > len(held.Sections(was)) || len(held.Needs(on)) > len(held.Needs(was)) {
				t.Errorf("route %d: %v, then %v", n, was, on)
			}
			if held.Right(was) && !held.Right(on) {
				t.Errorf("route %d: %v may be, %v not", n, was, on)
			}
		}
	}
}

func TestBehindAllNothingIs(t *testing.T) {
	roll := roller(11)
	for n := range 1000 {
		row := goesOn(fair(roll), n%14)
		for k, h := range row {
			if over := held.Over(h); over != (h.Gone == len(h.Path.Steps) && h.Open) || k == len(row)-1 && !over {
				t.Errorf("route %d: over %v of %v", n, over, h)
			}
			if !held.Over(h) {
				continue
			}
			if len(held.Sections(h)) != 0 || len(held.Needs(h)) != 0 {
				t.Errorf("route %d: over, but %v, %v are held", n, held.Sections(h), held.Needs(h))
			}
			for p := -1; p <= rows; p++ {
				if _, ok := held.Wants(h, p); ok || held.Has(h, p) {
					t.Errorf("route %d: over, but %d is", n, p)
				}
			}
			wantApart(t, "over", h, fair(roll), true)
		}
	}
}

func TestWhoWasApartStaysSo(t *testing.T) {
	roll := roller(12)
	kept, came := 0, 0
	for n := range 1500 {
		make := []func(func(int) int) api.Held{fair, small}[n%2]
		a, b := goesOn(make(roll), roll(14)), goesOn(make(roll), roll(14))
		was := false
		for k := range max(len(a), len(b)) {
			now := held.Apart(a[min(k, len(a)-1)], b[min(k*2/3, len(b)-1)])
			switch {
			case was && !now:
				t.Errorf("pair %d: apart no more: %v, %v", n, a[min(k, len(a)-1)], b[min(k*2/3, len(b)-1)])
			case was:
				kept++
			case now:
				came++
			}
			was = now
		}
	}
	if kept < 1000 || came < 1000 {
		t.Errorf("too few: kept %d times, come %d times", kept, came)
	}
}

// Each section is released with its step, and with it the needs of that step alone.
func TestOneByOne(t *testing.T) {
	roll := roller(13)
	for n := range 500 {
		h := fair(roll)
		for gone := range h.Path.Steps {
			for _, open := range []bool{false, true} {
				was, now := at(h, gone, open), at(h, gone+1, open)
				if !slices.Equal(held.Sections(was), append([]int{h.Path.Steps[gone].S}, held.Sections(now)...)) {
					t.Errorf("route %d: %v, then %v", n, held.Sections(was), held.Sections(now))
				}
				for _, x := range held.Needs(was) {
					if slices.Contains(held.Needs(now), x) != (x.K != gone) {
						t.Errorf("route %d: the need %v behind %d", n, x, gone)
					}
				}
			}
		}
	}
}

// R1, R3, R4 (R1's wrong numbers: all of the above; R2: no call answers an error)

func TestLongListsEnd(t *testing.T) {
	const many = 200000
	a, b := api.Held{Id: 1, Stage: 1}, api.Held{Id: 2, Stage: 1}
	for n := range many {
		a.Path.Steps, b.Path.Steps = append(a.Path.Steps, api.Step{S: n}), append(b.Path.Steps, api.Step{S: many + n})
		a.Over, b.Over = append(a.Over, api.Step{S: 2*many + n}), append(b.Over, api.Step{S: 3*many + n})
		a.Needs, b.Needs = append(a.Needs, api.Need{P: n, K: n}), append(b.Needs, api.Need{P: n, K: n})
	}
	if held.Right(a) || len(held.Sections(a)) != 2*many || len(held.Needs(a)) != many || held.Over(a) || !held.Has(a, 3*many-1) || held.Has(a, 3*many) {
		t.Error("a long route")
	}
	if _, ok := held.Wants(a, many-1); !ok {
		t.Error("the last need of many")
	}
	if !held.Apart(a, b) || held.Apart(a, a) || !held.Same(a, held.Own(a)) || held.Same(a, b) || len(held.Sections(at(a, many-1, true))) != 1 {
		t.Error("two long routes")
	}
	b.Needs[many-1].Pos = 1
	wantApart(t, "the last need", at(a, many-1, true), b, false)
	b.Needs[many-1].Pos, b.Over[many-1].S = 0, 3*many-1
	wantApart(t, "the last section", at(a, many, false), at(b, many, false), false)
	wantApart(t, "the last section is released", at(a, many, true), b, true)
	// Few steps, and many needs: those it may have.
	h := base()
	h.Needs = slices.Repeat(h.Needs, many)
	if !held.Right(h) || len(held.Needs(at(h, 3, false))) != 2*many || !held.Apart(of([]int{9}, nil, h.Needs...), of([]int{8}, nil, h.Needs...)) {
		t.Error("many needs")
	}
	h.Needs[len(h.Needs)-1].Pos = 0
	if held.Right(h) || held.Apart(of([]int{9}, nil, h.Needs...), of([]int{8}, nil, h.Needs[6:12]...)) {
		t.Error("many needs, the last of them the other way")
	}
}

func TestNilIsEmpty(t *testing.T) {
	nothing := api.Held{Id: 3}
	for i, h := range []api.Held{nothing, {Id: 3, Path: api.Path{Steps: []api.Step{}}, Over: []api.Step{}, Needs: []api.Need{}}, {Id: 3, Path: api.Path{Steps: make([]api.Step, 0, 9)}, Over: make([]api.Step, 0, 9), Needs: make([]api.Need, 0, 9)}} {
		if !held.Same(h, nothing) || !held.Same(nothing, h) || !held.Same(held.Own(h), nothing) || held.Right(h) {
			t.Errorf("case %d: not the same", i)
		}
		wantTold(t, fmt.Sprint("case ", i), h)
		wantTold(t, fmt.Sprint("case ", i), at(h, 0, true))
		wantApart(t, fmt.Sprint("case ", i), h, base(), true)
		other := changed(func(x *api.Held) { x.Over, x.Needs = h.Over, h.Needs })
		if !held.Right(other) || !held.Same(other, changed(func(x *api.Held) { x.Over, x.Needs = nil, nil })) {
			t.Errorf("case %d: with nothing of overlap and needs", i)
		}
	}
}

// tell is what all calls tell of routes, as text.
func tell(some ...api.Held) string {
	all := ""
	for n, h := range some {
		other := some[len(some)-1-n]
		all += fmt.Sprintln(held.Right(h), held.Sections(h), held.Needs(h), held.Over(h), held.Apart(h, other), held.Own(h), held.Same(h, other))
		for p := range 12 {
			pos, ok := held.Wants(h, p)
			all += fmt.Sprintln(held.Has(h, p), pos, ok)
		}
	}
	return all
}

func TestAnswersHangOnTheirArgumentsAlone(t *testing.T) {
	some := append(mixed(4, 14), base(), api.Held{})
	was := tell(some...)
	for n, h := range mixed(150, 15) {
		tell(h, base())
		if now := tell(some...); now != was {
			t.Fatalf("behind calls by %d, %v: %s, then %s", n, h, was, now)
		}
	}
}

// roomy is a list in memory of its own, with spare room behind it.
func roomy[T any](all []T) []T {
	return append(slices.Clip(slices.Clone(all)), make([]T, 20)...)[:len(all)]
}

// wide is a list as long as there is room.
func wide[T any](all []T) []T { return all[:cap(all)] }

// spoil writes over all of a list, its spare room, too.
func spoil[T any](all []T, by T) {
	for n := range wide(all) {
		wide(all)[n] = by
	}
}

// spoilAll writes over all lists of a route.
func spoilAll(h api.Held) {
	spoil(h.Path.Steps, api.Step{S: 77})
	spoil(h.Over, api.Step{S: 78})
	spoil(h.Needs, api.Need{P: 79})
}

// spacious is a route in memory of its own, with spare room behind its lists.
func spacious(h api.Held) api.Held {
	h.Path.Steps, h.Over, h.Needs = roomy(h.Path.Steps), roomy(h.Over), roomy(h.Needs)
	return h
}

// Routes that were handed in stay, their spare room, too, though what is told of them is written over.
func TestRoutesStay(t *testing.T) {
	some := mixed(200, 16)
	for n, h := range some {
		a, b := spacious(h), spacious(some[len(some)-1-n])
		big := a
		big.Path.Steps, big.Over, big.Needs = wide(a.Path.Steps), wide(a.Over), wide(a.Needs)
		was, other := fmt.Sprint(big), fmt.Sprint(b)
		tell(a, b)
		spoil(held.Sections(a), 77)
		spoil(held.Needs(a), api.Need{P: 77})
		spoilAll(held.Own(a))
		if fmt.Sprint(big) != was || fmt.Sprint(b) != other || fmt.Sprint(a) != fmt.Sprint(h) {
			t.Errorf("route %d, which was handed in, has changed: %s, then %v", n, was, big)
		}
	}
}

func TestAnswersShareNothing(t *testing.T) {
	for n, h := range append(mixed(100, 17), base()) {
		h = held.Own(h)
		was := fmt.Sprint(h)
		a, b := held.Own(h), held.Own(h)
		needs, sections := held.Needs(h), held.Sections(h)
		wasNeeds, wasSections := fmt.Sprint(needs), fmt.Sprint(sections)
		spoilAll(a)
		spoil(held.Needs(h), api.Need{P: 80})
		spoil(held.Sections(h), 81)
		if fmt.Sprint(h) != was || fmt.Sprint(b) != was {
			t.Errorf("route %d: %s, then %v, %v", n, was, h, b)
		}
		// What was told stays when the route that was handed in is written over: nothing of it is kept.
		spoilAll(h)
		if fmt.Sprint(b) != was || fmt.Sprint(needs) != wasNeeds || fmt.Sprint(sections) != wasSections {
			t.Errorf("route %d: an answer shares memory with what was handed in", n)
		}
		if fmt.Sprint(held.Needs(b)) != wasNeeds || fmt.Sprint(held.Sections(b)) != wasSections {
			t.Errorf("route %d: what was handed in is kept", n)
		}
	}
}
