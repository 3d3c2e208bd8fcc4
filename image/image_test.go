package image_test

import (
	"fmt"
	"math"
	"slices"
	"strconv"
	"testing"

	"lockbar/api"
	"lockbar/image"
	"lockbar/layout"
)

// The limits are written out here, so that a wrong one would be seen.
const (
	topCount = 65535
	rows     = 24
)

// numbers are such as lie at the edges, far beyond them, and in between.
func numbers() []int {
	return []int{math.MinInt, math.MinInt + 1, math.MinInt32, -65536, -256, -32, -24, -2, -1, 0, 1, 2, 3, 9, 12, 23, 24, 25, 31, 32, 33, 63, 64, 65, 255, 256, 1000, 65534, 65535, 65536, math.MaxInt32, math.MaxUint32, 1 << 32, 1<<32 + 1, 1 << 62, math.MaxInt - 1, math.MaxInt}
}

// places are numbers of sections and signals that are asked for: all that lie near those that there are, and wild ones.
func places() []int {
	all := numbers()
	for n := range 72 {
		all = append(all, n)
	}
	return all
}

// roller gives numbers from 0 to below n by a rule of its own, so that they are the same each time.
func roller(seed uint32) func(n int) int {
	return func(n int) int {
		seed = seed*1664525 + 1013904223
		return int(seed>>16) % n
	}
}

// of is a layout of sections of these kinds, of so many signals, with these times.
func of(clear, stale, signals int, kinds ...uint8) api.Layout {
	l := api.Layout{Signals: make([]api.Signal, signals), Times: api.Times{Clear: clear, Drive: 5, Stale: stale, Approach: 6, Over: 7, Press: 8, Link: 9}}
	for _, k := range kinds {
		l.Sections = append(l.Sections, api.Section{Kind: k, Join: [4]api.Port{{S: -1}, {S: -1}, {S: -1}, {S: -1}}})
	}
	return l
}

// points are so many of them.
func points(many int) []uint8 { return slices.Repeat([]uint8{2}, many) }

// mixed is a layout of sections of all kinds, now and then as many as there may be, with few ticks for its times.
func mixed(seed uint32) api.Layout {
	roll := roller(seed)
	many := []int{1, 2, 3, 1 + roll(24), 23, 24}[roll(6)]
	l := of(1+roll(4), 1+roll(3), roll(13))
	for range many {
		l.Sections = append(l.Sections, api.Section{Kind: []uint8{1, 2, 2, 3}[roll(4)]})
	}
	return l
}

// odds are layouts by numbers that may not be: of nothing, of no kinds, of too many sections and signals, of wild times.
func odds() []api.Layout {
	all := []api.Layout{{}, of(1, 1, 40, points(40)...), of(2, 1, 13, points(25)...), of(1, 1, 99, points(99)...), of(3, 2, 2, 0, 2, 4, 255, 2, 3, 128, 2)}
	for i, n := range numbers() {
		all = append(all, of(n, 2, i%14, 1, 2, 3, 2), of(2, n, i%14, 2, 1, 2, 3), of(n, numbers()[i*7%len(numbers())], 4, points(i)...))
	}
	return all
}

// anys are layouts of all sorts.
func anys() []api.Layout {
	all := odds()
	for seed := range uint32(150) {
		all = append(all, mixed(seed))
	}
	return all
}

// word is 32 bits by a rule: none, all, many, few of them.
func word(roll func(n int) int) uint32 {
	x, y := uint32(roll(65536))<<16|uint32(roll(65536)), uint32(roll(65536))<<16|uint32(roll(65536))
	return []uint32{0, math.MaxUint32, x, x & y, x | y}[roll(5)]
}

// told is what the field may tell, by a rule.
func told(roll func(n int) int) api.In {
	return api.In{Occ: word(roll), Normal: word(roll), Reverse: word(roll), Lamp: word(roll)}
}

// sight is an image by a rule, most of its numbers near a layout's times, some of them such as may not be.
func sight(l api.Layout, wild bool, roll func(n int) int) api.Image {
	near := func(top int) int {
		if wild && roll(4) == 0 {
			return numbers()[roll(len(numbers()))]
		}
		if top < 3 || top > 1000 || roll(9) == 0 {
			return []int{0, 1, 2, 3, 65533, 65534, 65535}[roll(7)]
		}
		return top - 2 + roll(5)
	}
	im := api.Image{Age: near(l.Times.Stale), In: told(roll)}
	if roll(3) > 0 {
		im.Age = 0
	}
	for s := range im.Free {
		im.Free[s] = near(l.Times.Clear)
	}
	return im
}

// sights are images of a layout, those that may be and others.
func sights(l api.Layout, seed, many int) []api.Image {
	roll := roller(uint32(seed))
	all := []api.Image{image.New(), {}}
	for n := range many {
		all = append(all, sight(l, n%2 == 1, roll))
	}
	return all
}

// The reference: the chapter's words, by other means than the package's.

// bit tells whether a number has its bit, by how the bits are written.
func bit(bits uint32, n int) bool {
	text := fmt.Sprintf("%032b", bits)
	return n >= 0 && n < len(text) && text[len(text)-1-n] == '1'
}

// isStale tells whether an image is.
func isStale(l api.Layout, im api.Image) bool { return !(im.Age <= l.Times.Stale) }

// more is what a counter is behind one more.
func more(n int) int {
	switch {
	case n <= 0:
		return 1
	case n >= topCount-1:
		return topCount
	}
	return n + 1
}

// behind is an image behind a tick, with an In or without.
func behind(l api.Layout, im api.Image, in *api.In) api.Image {
	next := api.Image{Age: more(im.Age), In: im.In}
	if in != nil {
		next = api.Image{In: *in}
	}
	for s, n := range im.Free {
		if !isStale(l, next) && !bit(next.In.Occ, s) {
			next.Free[s] = more(n)
		}
	}
	return next
}

// all is what is to be told of an image.
type all struct {
	stale               bool
	occupied, told, lit map[int]bool
	at                  map[int]int
	mask                uint32
}

// wanted is what an image is to tell: by what it tells of what is there; of all else it is occupied, and no more.
func wanted(l api.Layout, im api.Image) all {
	w := all{stale: isStale(l, im), occupied: map[int]bool{}, told: map[int]bool{}, lit: map[int]bool{}, at: map[int]int{}}
	for _, n := range places() {
		w.occupied[n], w.at[n] = true, -1
	}
	for s, x := range l.Sections {
		occ, normal, reverse := bit(im.In.Occ, s), bit(im.In.Normal, s), bit(im.In.Reverse, s)
		if s < rows && !w.stale && !occ && !(im.Free[s] < l.Times.Clear) {
			w.occupied[s] = false
		}
		if s < rows && w.occupied[s] {
			w.mask += uint32(math.Pow(2, float64(s)))
		}
		w.told[s] = s < rows && !w.stale && occ
		if x.Kind == 2 && !w.stale && normal != reverse {
			w.at[s] = map[bool]int{true: 0, false: 1}[normal]
		}
	}
	for n := range l.Signals {
		w.lit[n] = !w.stale && bit(im.In.Lamp, n)
	}
	return w
}

// wantTold holds all that an image tells against what it is to tell.
func wantTold(t *testing.T, what string, l api.Layout, im api.Image) {
	t.Helper()
	w := wanted(l, im)
	if got := image.Stale(l, im); got != w.stale {
		t.Errorf("%s: Stale of %v is %v", what, im, got)
	}
	if got := image.Mask(l, im); got != w.mask {
		t.Errorf("%s: Mask of %v is %b, want %b", what, im, got, w.mask)
	}
	for _, n := range places() {
		if got := image.Occupied(l, im, n); got != w.occupied[n] {
			t.Errorf("%s: %d is occupied, by %v: %v", what, n, im, got)
		}
		if got := image.Told(l, im, n); got != w.told[n] {
			t.Errorf("%s: %d is told occupied, by %v: %v", what, n, im, got)
		}
		if got := image.At(l, im, n); got != w.at[n] {
			t.Errorf("%s: %d stands, by %v, at %d, want %d", what, n, im, got, w.at[n])
		}
		if got := image.Lit(l, im, n); got != w.lit[n] {
			t.Errorf("%s: signal %d is lit, by %v: %v", what, n, im, got)
		}
	}
}

// wantSame tells of an image that is another one.
func wantSame(t *testing.T, what string, got, want api.Image) {
	t.Helper()
	if got != want {
		t.Errorf("%s: got %v, want %v", what, got, want)
	}
}

// P15.1

func TestNew(t *testing.T) {
	wantSame(t, "New", image.New(), api.Image{Age: topCount})
	if api.MaxSections != rows || len(image.New().Free) != rows || api.MaxCount != topCount {
		t.Error("the limits are others")
	}
}

func TestANewOneIsStaleAndAllIsOccupied(t *testing.T) {
	for _, l := range []api.Layout{of(1, 1, 12, 2), of(1, 1000, 12, 1, 2, 3), of(1000, 1000, 12, points(24)...)} {
		im := image.New()
		if !image.Stale(l, im) || !image.Right(im) || image.Mask(l, im) != 1<<len(l.Sections)-1 {
			t.Errorf("a new image of %d sections: %b", len(l.Sections), image.Mask(l, im))
		}
		wantTold(t, "new", l, im)
	}
}

// Each of an image's counters by itself.
func TestRight(t *testing.T) {
	for _, age := range []int{0, 7, topCount} {
		for _, free := range []int{0, 9, topCount} {
			im := api.Image{Age: age}
			for s := range im.Free {
				im.Free[s] = free
			}
			if !image.Right(im) {
				t.Errorf("%v may be", im)
			}
			for _, n := range numbers() {
				may := n >= 0 && n <= topCount
				other := im
				other.Age = n
				if image.Right(other) != may {
					t.Errorf("of Age %d: Right is %v", n, !may)
				}
				for s := range im.Free {
					other := im
					other.Free[s] = n
					if image.Right(other) != may {
						t.Errorf("with %d in row %d: Right is %v", n, s, !may)
					}
				}
			}
		}
	}
}

// Of two that may not be neither makes the other one right.
func TestRightOfSeveral(t *testing.T) {
	for a := range rows {
		for b := range rows {
			im := api.Image{Age: 1}
			im.Free[a], im.Free[b] = -1, topCount+1
			if image.Right(im) {
				t.Errorf("%v may be", im)
			}
			im.Free[b] = 0
			im.Age = a - rows
			if image.Right(im) {
				t.Errorf("%v may be", im)
			}
		}
	}
}

// What the field told is not asked.
func TestRightWhateverWasTold(t *testing.T) {
	roll := roller(4)
	for range 200 {
		if im := (api.Image{Age: roll(topCount + 1), In: told(roll)}); !image.Right(im) {
			t.Errorf("%v may be", im)
		}
	}
	if !image.Right(api.Image{In: api.In{Occ: math.MaxUint32, Normal: math.MaxUint32, Reverse: math.MaxUint32, Lamp: math.MaxUint32}}) {
		t.Error("all bits may be told")
	}
}

// free is an image's rows, the first ones.
func free(n ...int) [rows]int {
	var all [rows]int
	copy(all[:], n)
	return all
}

// since are rows that are alike from one on.
func since(all [rows]int, from, n int) [rows]int {
	for s := from; s < rows; s++ {
		all[s] = n
	}
	return all
}

func TestTakeByHand(t *testing.T) {
	l := of(3, 2, 1, 1, 2, 1)
	in := api.In{Occ: 5, Normal: 2, Reverse: 1, Lamp: 9}
	for i, x := range []struct {
		im   api.Image
		want [rows]int
	}{
		// Those told clear have one more, those told occupied nothing: of all rows, though there are three sections.
		{api.Image{}, since(free(0, 1, 0), 3, 1)},
		{api.Image{Age: topCount}, since(free(0, 1, 0), 3, 1)},
		{api.Image{Age: 1, Free: free(8, 8, 8, 8)}, since(free(0, 9, 0, 9), 4, 1)},
		{api.Image{Age: 2, Free: since(free(1, 2), 2, 700), In: api.In{Occ: 2, Reverse: 7}}, since(free(0, 3, 0), 3, 701)},
		// They stand still at the top; numbers that may not be count as those that may.
		{api.Image{Free: since(free(), 0, topCount-1)}, since(free(0, topCount, 0), 3, topCount)},
		{api.Image{Free: since(free(), 0, topCount)}, since(free(0, topCount, 0), 3, topCount)},
		{api.Image{Age: -5, Free: free(math.MaxInt, math.MaxInt, math.MaxInt, math.MinInt, -1, topCount+1)}, since(free(0, topCount, 0, 1, 1, topCount), 6, 1)},
	} {
		wantSame(t, "image "+strconv.Itoa(i), image.Take(l, x.im, in), api.Image{Free: x.want, In: in})
	}
}

func TestPassByHand(t *testing.T) {
	l := of(3, 2, 1, 1, 2, 1)
	in := api.In{Occ: 5, Normal: 2, Reverse: 1, Lamp: 9}
	some := free(4, 4, 4, 4)
	for i, x := range []struct {
		age, want int
		free      [rows]int
	}{
		// As long as it is not stale by then, the last In is told once more.
		{0, 1, since(free(0, 5, 0, 5), 4, 1)},
		{1, 2, since(free(0, 5, 0, 5), 4, 1)},
		{2, 3, free()}, {3, 4, free()}, {topCount - 1, topCount, free()}, {topCount, topCount, free()}, {topCount + 1, topCount, free()}, {math.MaxInt, topCount, free()},
		{-1, 1, since(free(0, 5, 0, 5), 4, 1)},
		{math.MinInt, 1, since(free(0, 5, 0, 5), 4, 1)},
	} {
		wantSame(t, "image "+strconv.Itoa(i), image.Pass(l, api.Image{Age: x.age, Free: some, In: in}), api.Image{Age: x.want, Free: x.free, In: in})
	}
	wantSame(t, "a new image", image.Pass(l, image.New()), image.New())
}

// A row hangs on its own section's bit alone, whether the layout has it or not.
func TestEachRowByItself(t *testing.T) {
	for _, l := range []api.Layout{of(1, 1, 0), of(1, 1, 0, 1, 1), of(1, 1, 0, points(24)...), of(1, 1, 0, points(40)...)} {
		for s := range 32 {
			one, others := api.In{Occ: 1 << s}, api.In{Occ: ^(uint32(1) << s)}
			a, b := since(free(), 0, 8), free()
			if s < rows {
				a[s], b[s] = 0, 8
			}
			im := api.Image{Free: since(free(), 0, 7)}
			wantSame(t, "one occupied", image.Take(l, im, one), api.Image{Free: a, In: one})
			wantSame(t, "one clear", image.Take(l, im, others), api.Image{Free: b, In: others})
		}
	}
}

// Of layouts whose images are stale at once, and of those whose never are.
func TestTicksByTheTimeToBeStale(t *testing.T) {
	for _, n := range numbers() {
		for _, age := range numbers() {
			l, im := of(1, n, 0, 1), api.Image{Age: age, Free: since(free(), 0, 3)}
			took, passed := since(free(), 0, 4), since(free(), 0, 4)
			if n < 0 {
				took = free()
			}
			if n < more(age) {
				passed = free()
			}
			wantSame(t, "Take by "+strconv.Itoa(n), image.Take(l, im, api.In{}), api.Image{Free: took})
			wantSame(t, "Pass by "+strconv.Itoa(n), image.Pass(l, im), api.Image{Age: more(age), Free: passed})
		}
	}
}

// All sorts of layouts and images, behind ticks with an In and without.
func TestTicks(t *testing.T) {
	stale, fresh := 0, 0
	for i, l := range anys() {
		roll := roller(uint32(i))
		for n, im := range sights(l, i, 40) {
			what := "layout " + strconv.Itoa(i) + ", image " + strconv.Itoa(n)
			in := told(roll)
			wantSame(t, what+", Take", image.Take(l, im, in), behind(l, im, &in))
			wantSame(t, what+", Pass", image.Pass(l, im), behind(l, im, nil))
			if isStale(l, behind(l, im, nil)) {
				stale++
			} else {
				fresh++
			}
		}
	}
	if stale < 1000 || fresh < 1000 {
		t.Errorf("too few: %d, %d", stale, fresh)
	}
}

// P15.2

func TestStale(t *testing.T) {
	for _, age := range numbers() {
		for _, top := range numbers() {
			l := of(1, top, 1, 2)
			if got := image.Stale(l, api.Image{Age: age}); got != (age > top) {
				t.Errorf("of age %d, by %d: Stale is %v", age, top, got)
			}
		}
	}
	for top := 1; top <= 1000; top++ {
		l := of(1, top, 1, 2)
		if image.Stale(l, api.Image{Age: top - 1}) || image.Stale(l, api.Image{Age: top}) || !image.Stale(l, api.Image{Age: top + 1}) {
			t.Errorf("by %d", top)
		}
	}
}

// It hangs on no other of the times, and on nothing else that was told.
func TestStaleByItsTimeAlone(t *testing.T) {
	l := of(1, 4, 3, 2)
	for _, n := range numbers() {
		l.Times = api.Times{Clear: n, Drive: n, Stale: 4, Approach: n, Over: n, Press: n, Link: n}
		im := api.Image{Age: 4, Free: since(free(), 0, n), In: api.In{Occ: uint32(n), Lamp: math.MaxUint32}}
		if image.Stale(l, im) {
			t.Errorf("with %d it is stale", n)
		}
		im.Age = 5
		if !image.Stale(l, im) {
			t.Errorf("with %d it is not stale", n)
		}
	}
}

func TestOccupiedByHand(t *testing.T) {
	l := of(3, 2, 0, 1, 2, 3)
	fresh := api.Image{Age: 2, Free: free(3, 2, 4, 9)}
	for i, x := range []struct {
		change              func(im *api.Image)
		s                   int
		occupied, told, was bool
	}{
		// Told clear for as long as is asked, for longer, for one tick less.
		{func(im *api.Image) {}, 0, false, false, false},
		{func(im *api.Image) {}, 2, false, false, false},
		{func(im *api.Image) {}, 1, true, false, false},
		{func(im *api.Image) { im.Free[1] = 3 }, 1, false, false, false},
		{func(im *api.Image) { im.Free[0] = 0 }, 0, true, false, false},
		{func(im *api.Image) { im.Free[0] = topCount }, 0, false, false, false},
		{func(im *api.Image) { im.Free[0] = -1 }, 0, true, false, false},
		{func(im *api.Image) { im.Free[0] = topCount + 1 }, 0, false, false, false},
		// Told occupied, be its row as long as it may.
		{func(im *api.Image) { im.In.Occ = 1 }, 0, true, true, false},
		{func(im *api.Image) { im.In.Occ, im.Free[0] = 1, topCount }, 0, true, true, false},
		{func(im *api.Image) { im.In.Occ = 2 }, 1, true, true, false},
		{func(im *api.Image) { im.In.Occ = 6 }, 0, false, false, false},
		// Stale: it is neither told clear nor told occupied.
		{func(im *api.Image) { im.Age = 3 }, 0, true, false, false},
		{func(im *api.Image) { im.Age, im.In.Occ = 3, 1 }, 0, true, false, false},
		{func(im *api.Image) { im.Age = topCount }, 2, true, false, false},
		// What is not there.
		{func(im *api.Image) {}, 3, true, false, false},
		{func(im *api.Image) { im.In.Occ = 8 }, 3, true, false, false},
		{func(im *api.Image) {}, -1, true, false, false},
		{func(im *api.Image) { im.In.Occ = math.MaxUint32 }, -1, true, false, false},
		{func(im *api.Image) { im.In.Occ = 1 }, 32, true, false, false},
		{func(im *api.Image) {}, 1 << 32, true, false, false},
	} {
		im := fresh
		x.change(&im)
		if got := image.Occupied(l, im, x.s); got != x.occupied {
			t.Errorf("case %d: Occupied is %v", i, got)
		}
		if got := image.Told(l, im, x.s); got != x.told {
			t.Errorf("case %d: Told is %v", i, got)
		}
	}
}

// How long a row is held against the time as both stand.
func TestOccupiedByTheTimeToBeClear(t *testing.T) {
	for _, n := range numbers() {
		for _, row := range numbers() {
			l := of(n, 1, 0, 1, 1)
			im := api.Image{Free: free(row, row), In: api.In{Occ: 2}}
			if got := image.Occupied(l, im, 0); got != (row < n) {
				t.Errorf("behind %d ticks, by %d: Occupied is %v", row, n, got)
			}
			if !image.Occupied(l, im, 1) {
				t.Errorf("behind %d ticks, by %d: told occupied, it is not", row, n)
			}
		}
	}
}

// Each section's bit and row are its own; from the 25th on it is occupied, and not told so.
func TestSectionsByTheirNumbers(t *testing.T) {
	for _, many := range []int{1, 2, 23, 24, 25, 31, 32, 33, 40} {
		l := of(2, 1, 0, points(many)...)
		for s := range 45 {
			occ, clear := api.Image{Free: since(free(), 0, 2)}, api.Image{}
			occ.In.Occ, clear.In.Occ = 1<<s, ^uint32(1<<s)
			if s < rows {
				clear.Free[s] = 2
			}
			for n := range 45 {
				there := n < min(many, rows)
				if image.Told(l, occ, n) != (there && n == s) || image.Told(l, clear, n) != (there && n != s) {
					t.Errorf("of %d sections, %d told: Told of %d is wrong", many, s, n)
				}
				if image.Occupied(l, occ, n) != (!there || n == s) || image.Occupied(l, clear, n) != (!there || n != s) {
					t.Errorf("of %d sections, %d told: Occupied of %d is wrong", many, s, n)
				}
			}
		}
	}
}

func TestAtByHand(t *testing.T) {
	l := of(3, 2, 0, 2, 1, 3, 2, 0, 4)
	for i, x := range []struct {
		age             int
		normal, reverse uint32
		want            [7]int
	}{
		{0, 0, 0, [7]int{-1, -1, -1, -1, -1, -1, -1}},
		{0, 1, 0, [7]int{0, -1, -1, -1, -1, -1, -1}},
		{2, 0, 1, [7]int{1, -1, -1, -1, -1, -1, -1}},
		{2, 1, 1, [7]int{-1, -1, -1, -1, -1, -1, -1}},
		{2, 9, 0, [7]int{0, -1, -1, 0, -1, -1, -1}},
		{2, 8, 1, [7]int{1, -1, -1, 0, -1, -1, -1}},
		{2, 1, 8, [7]int{0, -1, -1, 1, -1, -1, -1}},
		{2, 9, 8, [7]int{0, -1, -1, -1, -1, -1, -1}},
		{2, 8, 9, [7]int{1, -1, -1, -1, -1, -1, -1}},
		// Plain sections, crossings, those of no kind, those that are not there: whatever is told.
		{2, math.MaxUint32, 0, [7]int{0, -1, -1, 0, -1, -1, -1}},
		{2, 0, math.MaxUint32, [7]int{1, -1, -1, 1, -1, -1, -1}},
		{2, math.MaxUint32, math.MaxUint32, [7]int{-1, -1, -1, -1, -1, -1, -1}},
		// Stale.
		{3, math.MaxUint32, 0, [7]int{-1, -1, -1, -1, -1, -1, -1}},
		{topCount, 0, 1, [7]int{-1, -1, -1, -1, -1, -1, -1}},
	} {
		// Whether the point is occupied is not asked.
		im := api.Image{Age: x.age, In: api.In{Occ: uint32(i), Normal: x.normal, Reverse: x.reverse}}
		for p, want := range x.want {
			if got := image.At(l, im, p); got != want {
				t.Errorf("case %d: %d stands at %d, want %d", i, p, got, want)
			}
		}
		for _, p := range []int{-1, -32, math.MinInt, 32, 64, 1 << 32, math.MaxInt} {
			if got := image.At(l, im, p); got != -1 {
				t.Errorf("case %d: %d, which is not there, stands at %d", i, p, got)
			}
		}
	}
}

// A point's bits are its own, those of points that no image has a row for likewise; from the 33rd on there are no bits.
func TestPointsByTheirNumbers(t *testing.T) {
	for _, many := range []int{1, 24, 25, 32, 33, 70} {
		l := of(1, 1, 0, points(many)...)
		for p := range 72 {
			mine := uint32(1) << p
			for n := range 72 {
				normal, reverse := -1, -1
				if n == p && n < many && n < 32 {
					normal, reverse = 0, 1
				}
				one, other := api.Image{In: api.In{Normal: mine}}, api.Image{In: api.In{Reverse: mine}}
				if image.At(l, one, n) != normal || image.At(l, other, n) != reverse {
					t.Errorf("of %d points, %d told: %d stands at %d, %d", many, p, n, image.At(l, one, n), image.At(l, other, n))
				}
			}
		}
	}
}

func TestLitByHand(t *testing.T) {
	l := of(3, 2, 3, 1)
	for i, x := range []struct {
		age  int
		lamp uint32
		want [4]bool
	}{
		{0, 0, [4]bool{}},
		{0, 1, [4]bool{true}},
		{2, 2, [4]bool{false, true}},
		{2, 4, [4]bool{false, false, true}},
		{2, 8, [4]bool{}},
		{2, 5, [4]bool{true, false, true}},
		{2, math.MaxUint32, [4]bool{true, true, true, false}},
		{3, math.MaxUint32, [4]bool{}},
		{topCount, math.MaxUint32, [4]bool{}},
	} {
		im := api.Image{Age: x.age, In: api.In{Occ: uint32(i), Lamp: x.lamp}}
		for n, want := range x.want {
			if got := image.Lit(l, im, n); got != want {
				t.Errorf("case %d: Lit of %d is %v", i, n, got)
			}
		}
		for _, n := range []int{-1, -32, math.MinInt, 32, 64, 1 << 32, math.MaxInt} {
			if image.Lit(l, im, n) {
				t.Errorf("case %d: %d, which is not there, is lit", i, n)
			}
		}
	}
}

// A signal's bit is its own; from the 33rd on there are no bits. Sections do not matter.
func TestSignalsByTheirNumbers(t *testing.T) {
	for _, many := range []int{0, 1, 12, 13, 32, 33, 70} {
		l := of(1, 1, many, points(many%5)...)
		for sig := range 72 {
			im := api.Image{In: api.In{Lamp: 1 << sig}}
			for n := range 72 {
				if got := image.Lit(l, im, n); got != (n == sig && n < many && n < 32) {
					t.Errorf("of %d signals, %d told: Lit of %d is %v", many, sig, n, got)
				}
			}
		}
	}
}

func TestMaskByHand(t *testing.T) {
	for i, x := range []struct {
		sections, age int
		occ           uint32
		free          [rows]int
		want          uint32
	}{
		{0, 0, math.MaxUint32, free(), 0},
		{0, topCount, 0, free(), 0},
		{1, 0, 0, free(), 1},
		{1, 0, 0, free(3), 0},
		{1, 0, 1, free(3), 1},
		{1, 3, 0, free(3), 1},
		{3, 2, 0, free(3, 2, 3), 2},
		{3, 2, 4, free(3, 2, 3), 6},
		{3, 2, 8, free(3, 9, 3), 0},
		{3, 2, math.MaxUint32, free(3, 9, 3), 7},
		{24, 0, 0, free(), 0xffffff},
		{24, 0, 0, since(free(), 0, 3), 0},
		{24, 0, 0x800000, since(free(), 1, 3), 0x800001},
		// Those for which no image has a row are not among them.
		{25, 0, 0, free(), 0xffffff},
		{25, 0, math.MaxUint32, since(free(), 0, 3), 0xffffff},
		{40, 0, 0, since(free(), 0, 3), 0},
		{40, 3, 0, since(free(), 0, 3), 0xffffff},
	} {
		im := api.Image{Age: x.age, Free: x.free, In: api.In{Occ: x.occ}}
		if got := image.Mask(of(3, 2, 0, points(x.sections)...), im); got != x.want {
			t.Errorf("case %d: Mask is %x, want %x", i, got, x.want)
		}
	}
}

// All that is told of all sorts of layouts and images, by numbers that are there and others.
func TestAllThatIsTold(t *testing.T) {
	seen := map[string]int{}
	for i, l := range anys() {
		for n, im := range sights(l, i, 12) {
			wantTold(t, "layout "+strconv.Itoa(i)+", image "+strconv.Itoa(n), l, im)
			w := wanted(l, im)
			for s := range min(rows, len(l.Sections)) {
				seen[fmt.Sprint("occupied ", w.occupied[s], ", told ", w.told[s])]++
				seen[fmt.Sprint("at ", w.at[s])]++
			}
			for s := range l.Signals {
				seen[fmt.Sprint("lit ", w.lit[s])]++
			}
		}
	}
	for _, what := range []string{"occupied true, told true", "occupied true, told false", "occupied false, told false", "at -1", "at 0", "at 1", "lit true", "lit false"} {
		if seen[what] < 500 {
			t.Errorf("too few: %s %d times", what, seen[what])
		}
	}
}

// P15.3

// An image that is stale tells the worst of all, whatever the field told last.
func TestStaleTellsTheWorst(t *testing.T) {
	seen := 0
	for i, l := range anys() {
		for _, im := range sights(l, i, 12) {
			if !image.Stale(l, im) {
				continue
			}
			for _, n := range places() {
				if !image.Occupied(l, im, n) || image.Told(l, im, n) || image.At(l, im, n) != -1 || image.Lit(l, im, n) {
					t.Errorf("layout %d: %v, which is stale, tells better of %d", i, im, n)
				}
			}
			if image.Mask(l, im) != uint32(1<<min(rows, len(l.Sections))-1) {
				t.Errorf("layout %d: Mask of %v is %x", i, im, image.Mask(l, im))
			}
			seen++
		}
	}
	if seen < 500 {
		t.Errorf("only %d are stale", seen)
	}
}

// field is an In of which sections stay mostly as they were told ahead.
func field(was api.In, roll func(n int) int) api.In {
	was.Occ ^= 1 << roll(26) & uint32(-roll(2))
	was.Normal, was.Reverse, was.Lamp = word(roll), word(roll), word(roll)
	return was
}

// tale is how it goes tick by tick, from a new image on: what each section was told clear for how many ticks in a row, as an onlooker counts it who keeps all that was told.
type tale struct {
	im   api.Image
	last api.In
	old  int
	row  [40]int
	some bool
}

// on is a tick more, with an In or without.
func (h *tale) on(l api.Layout, in *api.In) {
	h.old++
	if in != nil {
		h.old, h.last, h.some = 0, *in, true
		h.im = image.Take(l, h.im, *in)
	} else {
		h.im = image.Pass(l, h.im)
	}
	for s := range h.row {
		if h.fresh(l) && !bit(h.last.Occ, s) {
			h.row[s]++
		} else {
			h.row[s] = 0
		}
	}
}

// fresh tells whether something was told, and not too long ago.
func (h *tale) fresh(l api.Layout) bool { return h.some && h.old <= l.Times.Stale }

// What is not occupied was told clear at each of the last ticks; what is told occupied is occupied; each image may be.
func TestTalesOfManyTicks(t *testing.T) {
	seen := map[string]int{}
	for seed := range uint32(60) {
		l, roll := mixed(seed), roller(seed+1000)
		h, in := tale{im: image.New()}, api.In{}
		for n := range 150 {
			// A time without an In now and then, so long that all is stale.
			silent := n/15%4 == 3 || roll(5) == 0
			if silent {
				h.on(l, nil)
			} else {
				in = field(in, roll)
				h.on(l, &in)
			}
			if !image.Right(h.im) || image.Stale(l, h.im) == h.fresh(l) || h.some && h.im.In != h.last {
				t.Fatalf("seed %d, tick %d: %v", seed, n, h.im)
			}
			for s := range l.Sections {
				clear := h.row[s] >= l.Times.Clear
				occupied, told := image.Occupied(l, h.im, s), image.Told(l, h.im, s)
				if occupied == clear || told != (h.fresh(l) && bit(h.last.Occ, s)) || told && !occupied {
					t.Fatalf("seed %d, tick %d: %d, clear for %d ticks: %v, %v", seed, n, s, h.row[s], occupied, told)
				}
				seen[fmt.Sprint(occupied, told, h.fresh(l))]++
			}
		}
	}
	// Occupied and told so; not yet told clear for so long; neither; stale.
	for _, what := range []string{"true true true", "true false true", "false false true", "true false false"} {
		if seen[what] < 300 {
			t.Errorf("too few: %s %d times", what, seen[what])
		}
	}
}

// Behind a time that was stale what is told clear is occupied, and not told so, till it was told for long enough.
func TestBehindATimeThatWasStale(t *testing.T) {
	l, im := of(3, 2, 1, 1, 2), image.New()
	for range 5 {
		im = image.Take(l, im, api.In{Normal: 2, Lamp: 1})
	}
	if image.Mask(l, im) != 0 || image.At(l, im, 1) != 0 || !image.Lit(l, im, 0) {
		t.Errorf("told clear: %v", im)
	}
	for n := 1; n <= 5; n++ {
		im = image.Pass(l, im)
		stale := n > 2
		if image.Stale(l, im) != stale || (image.Mask(l, im) == 3) != stale || image.Lit(l, im, 0) == stale || (image.At(l, im, 1) == -1) != stale {
			t.Errorf("%d ticks without: %v", n, im)
		}
	}
	for n := 1; n <= 4; n++ {
		im = image.Take(l, im, api.In{Normal: 2, Lamp: 1})
		if got := image.Mask(l, im); (got == 3) != (n < 3) || (got == 0) != (n >= 3) || image.Told(l, im, 0) || image.At(l, im, 1) != 0 || !image.Lit(l, im, 0) {
			t.Errorf("%d ticks on: %v", n, im)
		}
	}
}

// An image that may be may be behind a tick, one that may not be may then, too.
func TestTicksMakeImagesThatMayBe(t *testing.T) {
	wrong := 0
	for i, l := range anys() {
		roll := roller(uint32(i))
		for _, im := range sights(l, i, 20) {
			if !image.Right(im) {
				wrong++
			}
			if a, b := image.Take(l, im, told(roll)), image.Pass(l, im); !image.Right(a) || !image.Right(b) {
				t.Errorf("layout %d: behind %v stand %v, %v", i, im, a, b)
			}
		}
	}
	if wrong < 500 {
		t.Errorf("only %d may not be", wrong)
	}
}

// Nothing grows above its top, however many ticks go by.
func TestManyTicks(t *testing.T) {
	l, a, b := of(1, 70000, 1, 1, 1), image.New(), image.Take(of(1, 70000, 1, 1), image.New(), api.In{Occ: 2})
	for n := 1; n <= 66000; n++ {
		a, b = image.Take(l, a, api.In{Occ: 2}), image.Pass(l, b)
		if top := min(n, topCount); a.Age != 0 || a.Free[0] != top || a.Free[1] != 0 || b.Age != top || b.Free[0] != min(n+1, topCount) || b.Free[1] != 0 {
			t.Fatalf("behind %d ticks: %v, %v", n, a, b)
		}
	}
}

// R1, R3, R4 (R1's wrong numbers: all of the above; R2: no call answers an error)

func TestLongListsEnd(t *testing.T) {
	const many = 200000
	l := of(1, 1, many, points(many)...)
	im := image.Take(l, image.New(), api.In{Occ: 1, Reverse: 1 << 31, Lamp: 1 << 31})
	if image.Mask(l, im) != 1 || !image.Told(l, im, 0) || image.Occupied(l, im, 23) || !image.Occupied(l, im, 24) || !image.Occupied(l, im, many-1) {
		t.Errorf("of many sections: %v", im)
	}
	if image.At(l, im, 31) != 1 || image.At(l, im, many-1) != -1 || !image.Lit(l, im, 31) || image.Lit(l, im, many-1) || image.Told(l, im, many-1) {
		t.Error("the last of many")
	}
	if image.Mask(l, image.Pass(l, image.Pass(l, im))) != 0xffffff {
		t.Error("stale, of many sections")
	}
}

func TestNilIsEmpty(t *testing.T) {
	empty := api.Layout{Sections: []api.Section{}, Signals: []api.Signal{}, Exits: []api.Exit{}, Flanks: []api.Flank{}}
	for i, l := range []api.Layout{{}, empty, {Sections: make([]api.Section, 0, 30), Signals: make([]api.Signal, 0, 30)}} {
		for _, im := range []api.Image{{}, image.New(), {In: api.In{Occ: math.MaxUint32, Normal: math.MaxUint32, Lamp: math.MaxUint32}, Free: since(free(), 0, 9)}} {
			wantTold(t, "empty "+strconv.Itoa(i), l, im)
			wantSame(t, "empty "+strconv.Itoa(i), image.Take(l, im, api.In{Occ: 3}), behind(l, im, &api.In{Occ: 3}))
			wantSame(t, "empty "+strconv.Itoa(i), image.Pass(l, im), behind(l, im, nil))
		}
	}
}

// tell is what all calls tell of a layout and images, as text.
func tell(l api.Layout, some ...api.Image) string {
	text := fmt.Sprint(image.New())
	for _, im := range some {
		text += fmt.Sprintln(image.Right(im), image.Take(l, im, api.In{Occ: 6, Lamp: 2}), image.Pass(l, im), image.Stale(l, im), image.Mask(l, im))
		for n := -1; n < 26; n++ {
			text += fmt.Sprintln(image.Occupied(l, im, n), image.Told(l, im, n), image.At(l, im, n), image.Lit(l, im, n))
		}
	}
	return text
}

func TestAnswersHangOnTheirArgumentsAlone(t *testing.T) {
	base := of(3, 2, 4, 1, 2, 3, 2, 2)
	some := sights(base, 7, 9)
	was := tell(base, some...)
	for i, l := range anys() {
		tell(l, sights(l, i, 3)...)
		if now := tell(base, some...); now != was {
			t.Fatalf("behind calls by layout %d: %s, then %s", i, was, now)
		}
	}
}

// What the layout has beside its sections' kinds, its signals' number and two of its times does not matter.
func TestTheRestOfTheLayoutDoesNotMatter(t *testing.T) {
	for i, l := range anys() {
		other := layout.Own(l)
		for s := range other.Sections {
			other.Sections[s].Join, other.Sections[s].Class = [4]api.Port{{S: s, P: 3}}, [2]int{-1, 9}
			if other.Sections[s].Kind != 2 {
				other.Sections[s].Kind ^= 128
			}
		}
		for n := range other.Signals {
			other.Signals[n].At = api.Port{S: -n, P: n}
		}
		other.Exits, other.Flanks = append(other.Exits, api.Exit{}), append(other.Flanks, api.Flank{})
		other.Times = api.Times{Clear: l.Times.Clear, Stale: l.Times.Stale, Drive: -1, Link: math.MaxInt}
		some := sights(l, i, 4)
		if a, b := tell(l, some...), tell(other, some...); a != b {
			t.Errorf("layout %d: %s, then %s", i, a, b)
		}
	}
}

// roomy is a list in memory of its own, with spare room behind it.
func roomy[T any](all []T) []T {
	return append(slices.Clip(slices.Clone(all)), make([]T, 20)...)[:len(all)]
}

// wide is a list as long as there is room.
func wide[T any](all []T) []T { return all[:cap(all)] }

// A layout that was handed in stays, its spare room, too.
func TestLayoutsStay(t *testing.T) {
	for i, l := range anys() {
		l = layout.Own(l)
		l.Sections, l.Signals, l.Exits, l.Flanks = roomy(l.Sections), roomy(l.Signals), roomy(l.Exits), roomy(l.Flanks)
		big := l
		big.Sections, big.Signals, big.Exits, big.Flanks = wide(l.Sections), wide(l.Signals), wide(l.Exits), wide(l.Flanks)
		was := layout.Own(big)
		tell(l, sights(l, i, 5)...)
		if !layout.Same(big, was) {
			t.Errorf("layout %d, which was handed in, has changed", i)
		}
	}
}

// Neither a layout nor an image is kept: what is changed behind a call is not told by the next one of the old.
func TestNothingIsKept(t *testing.T) {
	l := of(2, 1, 2, 1, 2)
	im := image.Take(l, image.New(), api.In{Normal: 2, Lamp: 2})
	kept := im
	if image.At(l, im, 1) != 0 || !image.Lit(l, im, 1) {
		t.Fatal(im)
	}
	l.Sections[1].Kind = 3
	if image.At(l, im, 1) != -1 {
		t.Error("the layout is kept")
	}
	l.Sections[1].Kind = 2
	im.In.Normal, im.In.Reverse, im.Free[0] = 0, 2, 9
	if image.At(l, im, 1) != 1 || image.Occupied(l, im, 0) || image.At(l, kept, 1) != 0 || !image.Occupied(l, kept, 0) {
		t.Error("the image is kept")
	}
	fresh := image.New()
	fresh.Free[3], fresh.Age = 4, 5
	wantSame(t, "New", image.New(), api.Image{Age: topCount})
}
