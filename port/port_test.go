package port_test

import (
	"math"
	"slices"
	"testing"

	"lockbar/api"
	"lockbar/port"
)

// going is a way one way about, as it is written out here, so that a wrong one would be seen.
type going struct{ in, out, way, pos int }

// has is what a kind has, by the chapter's table, written out.
type has struct {
	ports, ways int
	ends        [][2]int
	goings      []going
}

// kinds are all there are, by their numbers.
func kinds() map[uint8]has {
	return map[uint8]has{
		1: {2, 1, [][2]int{{0, 1}}, []going{{0, 1, 0, -1}, {1, 0, 0, -1}}},
		2: {3, 2, [][2]int{{0, 1}, {0, 2}}, []going{{0, 1, 0, 0}, {1, 0, 0, 0}, {0, 2, 1, 1}, {2, 0, 1, 1}}},
		3: {4, 2, [][2]int{{0, 1}, {2, 3}}, []going{{0, 1, 0, -1}, {1, 0, 0, -1}, {2, 3, 1, -1}, {3, 2, 1, -1}}},
	}
}

// numbers are such as lie at the edges, and far beyond them.
func numbers() []int {
	all := []int{math.MinInt, math.MinInt + 1, math.MinInt32, -65536, -256, math.MaxInt32, math.MaxUint32, 1 << 32, 1<<32 + 1, 1 << 62, math.MaxInt - 1, math.MaxInt}
	for n := -9; n < 40; n++ {
		all = append(all, n)
	}
	for _, mid := range []int{64, 128, 255, 1000, 65536} {
		all = append(all, mid-1, mid, mid+1)
	}
	return all
}

// found is how it goes from in to out through such a section, if it does.
func found(h has, in, out int) (going, bool) {
	for _, g := range h.goings {
		if g.in == in && g.out == out {
			return g, true
		}
	}
	return going{}, false
}

// P5.1

func TestKindsAreThoseOfTheApi(t *testing.T) {
	if api.SePlain != 1 || api.SePoint != 2 || api.SeCross != 3 || api.Sections != 4 || api.MaxSections != 24 {
		t.Error("other kinds of sections, or another limit")
	}
}

func TestPortsAndWays(t *testing.T) {
	all := kinds()
	for k := range 256 {
		kind := uint8(k)
		if got := port.Ports(kind); got != all[kind].ports {
			t.Errorf("Ports(%d) is %d", kind, got)
		}
		if got := port.Ways(kind); got != all[kind].ways {
			t.Errorf("Ways(%d) is %d", kind, got)
		}
	}
}

func TestEnds(t *testing.T) {
	all := kinds()
	for k := range 256 {
		kind := uint8(k)
		for _, way := range numbers() {
			var want [2]int
			is := way >= 0 && way < len(all[kind].ends)
			if is {
				want = all[kind].ends[way]
			}
			if a, b, ok := port.Ends(kind, way); a != want[0] || b != want[1] || ok != is {
				t.Errorf("Ends(%d, %d): got %d, %d, %v; want %v, %v", kind, way, a, b, ok, want, is)
			}
		}
	}
}

func TestWay(t *testing.T) {
	all := kinds()
	for k := range 256 {
		kind := uint8(k)
		for _, in := range numbers() {
			for _, out := range numbers() {
				g, is := found(all[kind], in, out)
				if way, ok := port.Way(kind, in, out); way != g.way || ok != is {
					t.Fatalf("Way(%d, %d, %d): got %d, %v; want %d, %v", kind, in, out, way, ok, g.way, is)
				}
			}
		}
	}
}

func TestExamples(t *testing.T) {
	if way, ok := port.Way(api.SePoint, 2, 0); way != 1 || !ok {
		t.Errorf("through a point from 2 to 0: way %d, %v", way, ok)
	}
	if pos, ok := port.Pos(api.SePoint, 2, 0); pos != 1 || !ok {
		t.Errorf("through a point from 2 to 0: position %d, %v", pos, ok)
	}
	if way, ok := port.Way(api.SePoint, 1, 2); way != 0 || ok {
		t.Errorf("from a point's 1 to 2: way %d, %v", way, ok)
	}
	if pos, ok := port.Pos(api.SePoint, 1, 2); pos != 0 || ok {
		t.Errorf("from a point's 1 to 2: position %d, %v", pos, ok)
	}
}

// P5.2

func TestOuts(t *testing.T) {
	want := map[[2]int][]int{
		{1, 0}: {1}, {1, 1}: {0},
		{2, 0}: {1, 2}, {2, 1}: {0}, {2, 2}: {0},
		{3, 0}: {1}, {3, 1}: {0}, {3, 2}: {3}, {3, 3}: {2},
	}
	for kind := range 256 {
		for _, in := range numbers() {
			if got := port.Outs(uint8(kind), in); !slices.Equal(got, want[[2]int{kind, in}]) {
				t.Errorf("Outs(%d, %d): got %v", kind, in, got)
			}
		}
	}
}

func TestPos(t *testing.T) {
	all := kinds()
	for k := range 256 {
		kind := uint8(k)
		for _, in := range numbers() {
			for _, out := range numbers() {
				g, is := found(all[kind], in, out)
				if pos, ok := port.Pos(kind, in, out); pos != g.pos || ok != is {
					t.Fatalf("Pos(%d, %d, %d): got %d, %v; want %d, %v", kind, in, out, pos, ok, g.pos, is)
				}
			}
		}
	}
}

func TestTurned(t *testing.T) {
	for _, x := range [][2]api.Step{
		{{}, {}}, {{S: 5, In: 1, Out: 0}, {S: 5, In: 0, Out: 1}}, {{S: 23, In: 2, Out: 3}, {S: 23, In: 3, Out: 2}},
		{{S: -1, In: -2, Out: -3}, {S: -1, In: -3, Out: -2}}, {{S: math.MaxInt, In: math.MinInt, Out: 7}, {S: math.MaxInt, In: 7, Out: math.MinInt}},
	} {
		if got := port.Turned(x[0]); got != x[1] {
			t.Errorf("Turned(%v) is %v", x[0], got)
		}
		if got := port.Turned(port.Turned(x[0])); got != x[0] {
			t.Errorf("%v, turned twice, is %v", x[0], got)
		}
	}
}

// P5.3

// portMay tells by the chapter's words whether a port may be.
func portMay(p api.Port) bool {
	if p.S == -1 {
		return p.P == 0
	}
	return 0 <= p.S && p.S <= 23 && 0 <= p.P && p.P <= 3
}

func TestMay(t *testing.T) {
	may := 0
	for _, s := range numbers() {
		for _, n := range numbers() {
			p := api.Port{S: s, P: n}
			if got := port.May(p); got != portMay(p) {
				t.Errorf("May(%v) is %v", p, got)
			}
			if port.May(p) {
				may++
			}
		}
	}
	if may != 1+24*4 {
		t.Errorf("%d ports may be", may)
	}
}

func TestMayByHand(t *testing.T) {
	for _, p := range []api.Port{{S: -1, P: 0}, {S: 0, P: 0}, {S: 0, P: 3}, {S: 23, P: 0}, {S: 23, P: 3}, {S: 7, P: 2}} {
		if !port.May(p) {
			t.Errorf("%v may be", p)
		}
	}
	for _, p := range []api.Port{{S: -1, P: 1}, {S: -1, P: -1}, {S: -1, P: 3}, {S: -2, P: 0}, {S: 0, P: -1}, {S: 0, P: 4}, {S: 23, P: 4}, {S: 24, P: 0}, {S: 24, P: 3}, {S: 23, P: -1}, {S: -1, P: math.MinInt}} {
		if port.May(p) {
			t.Errorf("%v may not be", p)
		}
	}
}

// none is where the track ends.
func none() api.Port { return api.Port{S: -1, P: 0} }

// plainest is a section of that kind that joins to nothing, and has no classes.
func plainest(kind uint8) api.Section {
	return api.Section{Kind: kind, Join: [4]api.Port{none(), none(), none(), none()}}
}

func wantRight(t *testing.T, s api.Section, want bool) {
	t.Helper()
	if got := port.Right(s); got != want {
		t.Errorf("Right(%v) is %v", s, got)
	}
}

func TestRightKinds(t *testing.T) {
	for kind := range 256 {
		wantRight(t, plainest(uint8(kind)), kind >= 1 && kind <= 3)
		wantRight(t, api.Section{Kind: uint8(kind)}, kind == 3)
	}
	wantRight(t, api.Section{}, false)
}

func TestRightJoins(t *testing.T) {
	for kind, h := range kinds() {
		for n := range 4 {
			for _, s := range numbers() {
				for _, p := range numbers() {
					x, to := plainest(kind), api.Port{S: s, P: p}
					x.Join[n] = to
					want := portMay(to) && n < h.ports || to == none()
					if got := port.Right(x); got != want {
						t.Fatalf("Right(%v) is %v", x, got)
					}
				}
			}
		}
	}
}

func TestRightClasses(t *testing.T) {
	for kind, h := range kinds() {
		for n := range 2 {
			for _, class := range numbers() {
				x := plainest(kind)
				x.Class[n] = class
				wantRight(t, x, class == 0 || n < h.ways && class >= 1 && class <= 3)
			}
		}
	}
}

// fullest is a section of that kind that joins to ports at the edges, of the highest classes.
func fullest(kind uint8, h has) api.Section {
	s := plainest(kind)
	for n := range h.ports {
		s.Join[n] = api.Port{S: 23 - 23*(n%2), P: 3 - n}
	}
	for n := range h.ways {
		s.Class[n] = 3
	}
	return s
}

func TestRightIsWrongByOneNumber(t *testing.T) {
	for kind, h := range kinds() {
		wantRight(t, fullest(kind, h), true)
		for _, other := range []uint8{0, 4, 5, 128, 255} {
			x := fullest(kind, h)
			x.Kind = other
			wantRight(t, x, false)
		}
		for n := range 4 {
			for _, to := range []api.Port{{S: 24, P: 0}, {S: -2, P: 0}, {S: -1, P: 1}, {S: 5, P: 4}, {S: 5, P: -1}} {
				x := fullest(kind, h)
				x.Join[n] = to
				wantRight(t, x, false)
			}
			x := fullest(kind, h)
			x.Join[n] = api.Port{S: 0, P: 0}
			wantRight(t, x, n < h.ports)
		}
		for n := range 2 {
			for _, class := range []int{-1, 4, math.MinInt, math.MaxInt} {
				x := fullest(kind, h)
				x.Class[n] = class
				wantRight(t, x, false)
			}
			x := fullest(kind, h)
			x.Class[n] = 1
			wantRight(t, x, n < h.ways)
		}
	}
}

// P5.4

func TestAWayGoesBothWaysAbout(t *testing.T) {
	for k := range 256 {
		kind := uint8(k)
		for way := range port.Ways(kind) {
			a, b, ok := port.Ends(kind, way)
			if !ok || a >= b || a < 0 || b >= port.Ports(kind) {
				t.Errorf("Ends(%d, %d): %d, %d, %v", kind, way, a, b, ok)
			}
			for _, s := range []api.Step{{In: a, Out: b}, port.Turned(api.Step{In: a, Out: b})} {
				if n, ok := port.Way(kind, s.In, s.Out); n != way || !ok {
					t.Errorf("Way(%d, %d, %d): %d, %v", kind, s.In, s.Out, n, ok)
				}
				if !slices.Contains(port.Outs(kind, s.In), s.Out) {
					t.Errorf("Outs(%d, %d) lack %d", kind, s.In, s.Out)
				}
			}
			there, is := port.Pos(kind, a, b)
			back, was := port.Pos(kind, b, a)
			if there != back || !is || !was {
				t.Errorf("the way %d of the kind %d: positions %d, %d", way, kind, there, back)
			}
		}
	}
}

func TestFromEachPortAWayGoes(t *testing.T) {
	for kind := range kinds() {
		for in := range port.Ports(kind) {
			want := 1
			if kind == api.SePoint && in == 0 {
				want = 2
			}
			outs := port.Outs(kind, in)
			if len(outs) != want || !slices.IsSorted(outs) {
				t.Errorf("Outs(%d, %d): %v", kind, in, outs)
			}
			for _, out := range outs {
				if _, ok := port.Way(kind, in, out); !ok || out == in {
					t.Errorf("no way of the kind %d goes from %d to %d", kind, in, out)
				}
			}
		}
	}
}

func TestNoTwoWaysBetweenTheSamePorts(t *testing.T) {
	for kind := range kinds() {
		seen := map[[2]int]bool{}
		for way := range port.Ways(kind) {
			a, b, _ := port.Ends(kind, way)
			if seen[[2]int{a, b}] || seen[[2]int{b, a}] {
				t.Errorf("two ways of the kind %d go between %d and %d", kind, a, b)
			}
			seen[[2]int{a, b}] = true
		}
	}
}

func TestNoWayGoesBack(t *testing.T) {
	for kind := range 256 {
		for _, in := range numbers() {
			if _, ok := port.Way(uint8(kind), in, in); ok {
				t.Errorf("a way of the kind %d goes from %d back", kind, in)
			}
			if _, ok := port.Pos(uint8(kind), in, in); ok {
				t.Errorf("a way of the kind %d from %d back has a position", kind, in)
			}
		}
	}
}

// R3, R4 (R1: all of the above, by numbers that may not be; R2: no call answers an error)

// told is what all calls tell of one point, and of a section.
type told struct {
	numbers [9]int
	yes     [4]bool
	step    api.Step
}

func tell() told {
	a, b, ends := port.Ends(api.SePoint, 1)
	way, goes := port.Way(api.SePoint, 2, 0)
	pos, has := port.Pos(api.SePlain, 1, 0)
	outs := port.Outs(api.SePoint, 0)
	return told{
		[9]int{port.Ports(api.SePoint), port.Ways(api.SePoint), a, b, way, pos, len(outs), outs[0], outs[1]},
		[4]bool{ends, goes, has, port.May(none()) && port.Right(plainest(api.SeCross))},
		port.Turned(api.Step{S: 1, In: 2, Out: 3}),
	}
}

func TestAnswersHangOnTheirArgumentsAlone(t *testing.T) {
	was := tell()
	want := told{[9]int{3, 2, 0, 2, 1, -1, 2, 1, 2}, [4]bool{true, true, true, true}, api.Step{S: 1, In: 3, Out: 2}}
	if was != want {
		t.Errorf("got %v", was)
	}
	for _, n := range numbers() {
		kind := uint8(n)
		port.Ports(kind)
		port.Ways(kind)
		port.Ends(kind, n)
		port.Way(kind, n, 0)
		port.Outs(kind, n)
		port.Pos(kind, 0, n)
		port.Turned(api.Step{S: n, In: n, Out: -n})
		port.May(api.Port{S: n, P: n})
		port.Right(api.Section{Kind: kind, Class: [2]int{n, n}})
		if now := tell(); now != was {
			t.Fatalf("behind calls by %d: %v, then %v", n, was, now)
		}
	}
}

func TestOutsAreNewMemory(t *testing.T) {
	for kind, h := range kinds() {
		for in := range h.ports {
			fresh, a, b := port.Outs(kind, in), port.Outs(kind, in), port.Outs(kind, in)
			a = a[:cap(a)]
			for i := range a {
				a[i] = -77
			}
			if again := port.Outs(kind, in); !slices.Equal(b, fresh) || !slices.Equal(again, fresh) {
				t.Errorf("Outs(%d, %d): answers share memory: %v, %v, %v", kind, in, fresh, b, again)
			}
		}
	}
}

// A section is handed in by its value: what it holds stays, too.
func TestArgumentsStay(t *testing.T) {
	for kind, h := range kinds() {
		s, step, p := fullest(kind, h), api.Step{S: 1, In: 2, Out: 3}, api.Port{S: 4, P: 1}
		port.Right(s)
		port.Turned(step)
		port.May(p)
		if s != fullest(kind, h) || step != (api.Step{S: 1, In: 2, Out: 3}) || p != (api.Port{S: 4, P: 1}) {
			t.Errorf("what was handed in has changed: %v, %v, %v", s, step, p)
		}
	}
}
