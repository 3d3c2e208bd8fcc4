package plan_test

import (
	"bytes"
	"math"
	"reflect"
	"strconv"
	"strings"
	"testing"

	"lockbar/api"
	"lockbar/layout"
	"lockbar/plan"
)

// mostBytes is what the chapter tells of Most, written out here, so that a wrong one would be seen.
const mostBytes = 200

// none is where the track ends.
func none() api.Port { return api.Port{S: -1, P: 0} }

// portsOf is how many ports a kind has.
func portsOf(kind uint8) int {
	switch kind {
	case 1:
		return 2
	case 2:
		return 3
	case 3:
		return 4
	}
	return 0
}

// waysOf is how many ways a kind has.
func waysOf(kind uint8) int {
	switch kind {
	case 1:
		return 1
	case 2, 3:
		return 2
	}
	return 0
}

// bare is a layout of nothing, its times at their least.
func bare() api.Layout {
	return api.Layout{Times: api.Times{Clear: 1, Drive: 1, Stale: 1, Approach: 1, Over: 1, Press: 1, Link: 1}}
}

// loop is a layout with some of all: a plain section, a point behind it, and a crossing behind that.
func loop() api.Layout {
	return api.Layout{
		Sections: []api.Section{
			{Kind: 1, Join: [4]api.Port{none(), {S: 1, P: 0}, none(), none()}, Class: [2]int{2, 0}},
			{Kind: 2, Join: [4]api.Port{{S: 0, P: 1}, {S: 2, P: 0}, {S: 2, P: 3}, none()}, Class: [2]int{1, 3}},
			{Kind: 3, Join: [4]api.Port{{S: 1, P: 1}, none(), none(), {S: 1, P: 2}}, Class: [2]int{0, 2}},
		},
		Signals: []api.Signal{{At: api.Port{S: 0, P: 0}}, {At: api.Port{S: 2, P: 2}}},
		Exits: []api.Exit{
			{At: api.Port{S: 2, P: 1}},
			{At: api.Port{S: 1, P: 2}, Over: []api.Step{{S: 2, In: 3, Out: 2}}},
		},
		Flanks: []api.Flank{{S: 2, Way: 1, Point: 1, Pos: 1}},
		Times:  api.Times{Clear: 1, Drive: 2, Stale: 3, Approach: 1000, Over: 513, Press: 5, Link: 4},
	}
}

// loopBits are those of loop, as the chapter's table tells them, by hand.
const loopBits = "00011 0010 0010 00001" +
	" 01 0 10000100 10" +
	" 10 10000001 10001000 10001011 01 11" +
	" 11 10000101 0 0 10000110 00 10" +
	" 0000000 0001010" +
	" 00010 01 00  00001 10 01 00010 11 10" +
	" 00010 1 00001 1" +
	" 0000000000 0000000001 0000000010 1111100111 1000000000 0000000100 0000000011"

// fullest is a layout that has of all as many as may be, its numbers at their tops. Of its sections all but one are crossings: that one is the point that flanks want.
func fullest() api.Layout {
	l := api.Layout{Times: api.Times{Clear: 1000, Drive: 1000, Stale: 1000, Approach: 1000, Over: 1000, Press: 1000, Link: 1000}}
	for range 24 {
		l.Sections = append(l.Sections, api.Section{Kind: 3, Join: [4]api.Port{{S: 23, P: 3}, {S: 22, P: 2}, {S: 23, P: 0}, {S: 0, P: 3}}, Class: [2]int{3, 3}})
	}
	l.Sections[22].Kind, l.Sections[22].Join[3] = 2, none()
	for range 12 {
		l.Signals = append(l.Signals, api.Signal{At: api.Port{S: 23, P: 3}})
		l.Exits = append(l.Exits, api.Exit{At: api.Port{S: 23, P: 0}, Over: []api.Step{{S: 23, In: 3, Out: 2}, {S: 22, In: 2, Out: 0}}})
	}
	for range 16 {
		l.Flanks = append(l.Flanks, api.Flank{S: 23, Way: 1, Point: 22, Pos: 1})
	}
	return l
}

// stretch is a layout of so many sections of a kind that join to nothing, and nothing else.
func stretch(kind uint8, sections int) api.Layout {
	l := bare()
	for range sections {
		l.Sections = append(l.Sections, api.Section{Kind: kind, Join: [4]api.Port{none(), none(), none(), none()}})
	}
	return l
}

// dice gives numbers below n that look random, and are the same each time.
func dice(seed uint32) func(n int) int {
	return func(n int) int {
		seed = seed*1664525 + 1013904223
		return int(seed>>16) % n
	}
}

// mixed is a layout of some of all, by dice.
func mixed(seed uint32) api.Layout {
	roll := dice(seed)
	l := bare()
	for _, n := range []*int{&l.Times.Clear, &l.Times.Drive, &l.Times.Stale, &l.Times.Approach, &l.Times.Over, &l.Times.Press, &l.Times.Link} {
		*n = 1 + roll(1000)
	}
	l.Sections = stretch(2, 1+roll(24)).Sections
	for n := 1; n < len(l.Sections); n++ {
		l.Sections[n].Kind = uint8(1 + roll(3))
	}
	anyPort := func() api.Port {
		s := roll(len(l.Sections))
		return api.Port{S: s, P: roll(portsOf(l.Sections[s].Kind))}
	}
	for n := range l.Sections {
		s := &l.Sections[n]
		for p := range portsOf(s.Kind) {
			if roll(3) > 0 {
				s.Join[p] = anyPort()
			}
		}
		for w := range waysOf(s.Kind) {
			s.Class[w] = roll(4)
		}
	}
	for range roll(13) {
		l.Signals = append(l.Signals, api.Signal{At: anyPort()})
	}
	for range roll(13) {
		over := []api.Step{{S: 0, In: roll(2) + 1, Out: 0}, {S: 0, In: 0, Out: roll(2) + 1}}
		l.Exits = append(l.Exits, api.Exit{At: anyPort(), Over: over[:roll(3)]})
	}
	for range roll(17) {
		if s := roll(len(l.Sections)); s > 0 {
			l.Flanks = append(l.Flanks, api.Flank{S: s, Way: roll(waysOf(l.Sections[s].Kind)), Point: 0, Pos: roll(2)})
		}
	}
	return l
}

// goods are layouts whose numbers may be.
func goods() []api.Layout {
	all := []api.Layout{bare(), loop(), fullest(), stretch(1, 1), stretch(2, 7), stretch(3, 24), {Sections: []api.Section{}, Exits: []api.Exit{}, Times: bare().Times}}
	for seed := range uint32(60) {
		all = append(all, mixed(seed))
	}
	return all
}

// numbers are such as lie at the edges, and far beyond them.
func numbers() []int {
	all := []int{math.MinInt, math.MinInt + 1, math.MinInt32, -256, math.MaxInt32, math.MaxUint32, 1 << 32, 1<<32 + 1, 1 << 62, math.MaxInt - 1, math.MaxInt}
	for n := -3; n < 34; n++ {
		all = append(all, n)
	}
	for _, mid := range []int{64, 256, 1000, 1024, 65536} {
		all = append(all, mid-1, mid, mid+1)
	}
	return all
}

// places are where a layout's numbers stand, but the kinds of sections.
func places(l *api.Layout) []*int {
	var all []*int
	for n := range l.Sections {
		s := &l.Sections[n]
		for p := range s.Join {
			all = append(all, &s.Join[p].S, &s.Join[p].P)
		}
		all = append(all, &s.Class[0], &s.Class[1])
	}
	for n := range l.Signals {
		all = append(all, &l.Signals[n].At.S, &l.Signals[n].At.P)
	}
	for n := range l.Exits {
		x := &l.Exits[n]
		all = append(all, &x.At.S, &x.At.P)
		for i := range x.Over {
			all = append(all, &x.Over[i].S, &x.Over[i].In, &x.Over[i].Out)
		}
	}
	for n := range l.Flanks {
		f := &l.Flanks[n]
		all = append(all, &f.S, &f.Way, &f.Point, &f.Pos)
	}
	t := &l.Times
	return append(all, &t.Clear, &t.Drive, &t.Stale, &t.Approach, &t.Over, &t.Press, &t.Link)
}

// The reference: the chapter's table, by texts of 0 and 1.

// told is a number in so many bits.
func told(n, width int) string {
	s := strconv.Itoa(n)
	if n >= 0 {
		s = strconv.FormatInt(int64(n), 2)
	}
	return strings.Repeat("0", width-len(s)) + s
}

// portTold are a port's bits.
func portTold(p api.Port) string { return told(p.S, 5) + told(p.P, 2) }

// bitsOf are a layout's bits, by the table, whether its numbers may be or not, as long as they have room.
func bitsOf(l api.Layout) string {
	s := told(len(l.Sections), 5) + told(len(l.Signals), 4) + told(len(l.Exits), 4) + told(len(l.Flanks), 5)
	for _, x := range l.Sections {
		s += told(int(x.Kind), 2)
		for p := range portsOf(x.Kind) {
			if x.Join[p] == none() {
				s += "0"
			} else {
				s += "1" + portTold(x.Join[p])
			}
		}
		for w := range waysOf(x.Kind) {
			s += told(x.Class[w], 2)
		}
	}
	for _, x := range l.Signals {
		s += portTold(x.At)
	}
	for _, x := range l.Exits {
		s += portTold(x.At) + told(len(x.Over), 2)
		for _, o := range x.Over {
			s += told(o.S, 5) + told(o.In, 2) + told(o.Out, 2)
		}
	}
	for _, x := range l.Flanks {
		s += told(x.S, 5) + told(x.Way, 1) + told(x.Point, 5) + told(x.Pos, 1)
	}
	t := l.Times
	for _, n := range []int{t.Clear, t.Drive, t.Stale, t.Approach, t.Over, t.Press, t.Link} {
		s += told(n-1, 10)
	}
	return s
}

// bytesOf are the bytes of a text of bits, which may have spaces in it, with as few bits 0 behind them as make whole bytes.
func bytesOf(s string) []byte {
	s = strings.ReplaceAll(s, " ", "")
	for len(s)%8 != 0 {
		s += "0"
	}
	b := []byte{}
	for ; s != ""; s = s[8:] {
		n, err := strconv.ParseUint(s[:8], 2, 8)
		if err != nil {
			panic(err)
		}
		b = append(b, byte(n))
	}
	return b
}

// reader reads a text of bits; short: it has ended ahead of a number's end.
type reader struct {
	s     string
	short bool
}

// next is the next number; 0, where the bits have ended.
func (r *reader) next(width int) int {
	if r.short || len(r.s) < width {
		r.short = true
		return 0
	}
	n, err := strconv.ParseInt(r.s[:width], 2, 64)
	if err != nil {
		panic(err)
	}
	r.s = r.s[width:]
	return int(n)
}

// port is the next port.
func (r *reader) port() api.Port {
	s := r.next(5)
	return api.Port{S: s, P: r.next(2)}
}

// section is the next section.
func (r *reader) section() api.Section {
	x := api.Section{Kind: uint8(r.next(2)), Join: [4]api.Port{none(), none(), none(), none()}}
	for p := range portsOf(x.Kind) {
		if r.next(1) == 1 {
			x.Join[p] = r.port()
		}
	}
	for w := range waysOf(x.Kind) {
		x.Class[w] = r.next(2)
	}
	return x
}

// layout is the layout that is read, whatever its numbers are.
func (r *reader) layout() api.Layout {
	var l api.Layout
	sections, signals, exits, flanks := r.next(5), r.next(4), r.next(4), r.next(5)
	for range sections {
		l.Sections = append(l.Sections, r.section())
	}
	for range signals {
		l.Signals = append(l.Signals, api.Signal{At: r.port()})
	}
	for range exits {
		x := api.Exit{At: r.port()}
		for range r.next(2) {
			s := r.next(5)
			in := r.next(2)
			x.Over = append(x.Over, api.Step{S: s, In: in, Out: r.next(2)})
		}
		l.Exits = append(l.Exits, x)
	}
	for range flanks {
		f := api.Flank{S: r.next(5)}
		f.Way = r.next(1)
		f.Point = r.next(5)
		f.Pos = r.next(1)
		l.Flanks = append(l.Flanks, f)
	}
	t := &l.Times
	for _, n := range []*int{&t.Clear, &t.Drive, &t.Stale, &t.Approach, &t.Over, &t.Press, &t.Link} {
		*n = r.next(10) + 1
	}
	return l
}

// taken is what Take has to answer.
func taken(b []byte) (api.Layout, api.Errno) {
	var s strings.Builder
	for _, x := range b {
		s.WriteString(told(int(x), 8))
	}
	r := &reader{s: s.String()}
	l := r.layout()
	if r.short {
		return api.Layout{}, api.ErrShort
	}
	if !layout.Right(l) || len(r.s) > 7 || strings.Contains(r.s, "1") {
		return api.Layout{}, api.ErrForm
	}
	return l, api.OK
}

// isNothing tells whether a layout is nothing at all.
func isNothing(l api.Layout) bool { return reflect.DeepEqual(l, api.Layout{}) }

// wantPut tells of a layout whose bytes are others than those.
func wantPut(t *testing.T, what string, l api.Layout, want []byte) {
	t.Helper()
	if b, e := plan.Put(l); e != api.OK || !bytes.Equal(b, want) {
		t.Errorf("%s: Put is %v, %v, not %v", what, b, e, want)
	}
	if n := plan.Size(l); n != len(want) {
		t.Errorf("%s: Size is %v, not %v", what, n, len(want))
	}
}

// wantNoPut tells of a layout that may not be, and is put.
func wantNoPut(t *testing.T, what string, l api.Layout) {
	t.Helper()
	if b, e := plan.Put(l); e != api.ErrLayout || len(b) != 0 {
		t.Errorf("%s: Put is %v, %v", what, b, e)
	}
	if n := plan.Size(l); n != 0 {
		t.Errorf("%s: Size is %v", what, n)
	}
}

// wantTake tells of bytes that are taken otherwise than as that error, or as that layout.
func wantTake(t *testing.T, what string, b []byte, want api.Layout, err api.Errno) {
	t.Helper()
	l, e := plan.Take(b)
	if e != err || e == api.OK && !layout.Same(l, want) || e != api.OK && !isNothing(l) {
		t.Errorf("%s: Take of %v is %v, %v, not %v, %v", what, b, l, e, want, err)
	}
}

// P8.1: Put, Size, Most

func TestExamples(t *testing.T) {
	wantPut(t, "no sections, nothing, all times 1", bare(), make([]byte, 11))
	wantTake(t, "11 bytes of 0", make([]byte, 11), bare(), api.OK)
}

func TestPutByHand(t *testing.T) {
	wantPut(t, "loop", loop(), bytesOf(loopBits))
	wantTake(t, "loop", bytesOf(loopBits), loop(), api.OK)
	// A port 0 of section 0 is put, and is not the track's end.
	l := stretch(1, 1)
	l.Sections[0].Join[1] = api.Port{S: 0, P: 0}
	wantPut(t, "joined to itself", l, bytesOf("00001 0000 0000 00000  01 0 1 00000 00 00"+strings.Repeat("0", 70)))
}

func TestPutByTheTable(t *testing.T) {
	for n, l := range goods() {
		if !layout.Right(l) {
			t.Fatal("layout", n, "may not be:", l)
		}
		wantPut(t, "layout "+strconv.Itoa(n), l, bytesOf(bitsOf(l)))
	}
}

// Each number of a layout is put, whatever it is, so long as it may be.
func TestPutEachNumber(t *testing.T) {
	may := 0
	for _, whole := range []func() api.Layout{loop, fullest, bare} {
		for n := range places(new(whole())) {
			for _, x := range numbers() {
				l := whole()
				*places(&l)[n] = x
				what := "number " + strconv.Itoa(n) + ": " + strconv.Itoa(x)
				if !layout.Right(l) {
					wantNoPut(t, what, l)
				} else {
					may++
					wantPut(t, what, l, bytesOf(bitsOf(l)))
				}
			}
		}
	}
	if may < 1000 {
		t.Error("only", may, "may be")
	}
}

func TestPutKinds(t *testing.T) {
	for kind := range 256 {
		l := stretch(uint8(kind), 1)
		if kind >= 1 && kind <= 3 {
			wantPut(t, "kind "+strconv.Itoa(kind), l, bytesOf(bitsOf(l)))
		} else {
			wantNoPut(t, "kind "+strconv.Itoa(kind), l)
		}
	}
}

// counted are layouts of so many sections, signals, exits, flanks, steps of an overlap.
func counted(n int) (sections, signals, exits, flanks, over api.Layout) {
	sections, signals, exits, flanks, over = stretch(3, n), loop(), loop(), loop(), loop()
	signals.Signals, exits.Exits, flanks.Flanks, over.Exits[0].Over = nil, nil, nil, nil
	for range n {
		signals.Signals = append(signals.Signals, loop().Signals[1])
		exits.Exits = append(exits.Exits, loop().Exits[1])
		flanks.Flanks = append(flanks.Flanks, loop().Flanks[0])
		over.Exits[0].Over = append(over.Exits[0].Over, api.Step{S: 2, In: 0, Out: 1})
	}
	return sections, signals, exits, flanks, over
}

func TestPutLimits(t *testing.T) {
	for n := range 70 {
		sections, signals, exits, flanks, over := counted(n)
		for _, x := range []struct {
			what string
			l    api.Layout
			top  int
		}{
			{"sections", sections, 24}, {"signals", signals, 12}, {"exits", exits, 12}, {"flanks", flanks, 16}, {"over", over, 2},
		} {
			if what := strconv.Itoa(n) + " " + x.what; n > x.top {
				wantNoPut(t, what, x.l)
			} else {
				wantPut(t, what, x.l, bytesOf(bitsOf(x.l)))
			}
		}
	}
}

func TestMost(t *testing.T) {
	if n := plan.Most(); n != mostBytes {
		t.Errorf("Most is %v", n)
	}
	for n, l := range goods() {
		if plan.Size(l) > mostBytes {
			t.Errorf("layout %v has %v bytes", n, plan.Size(l))
		}
	}
	// The point that flanks want has fewer bits than a crossing: so the layout that has most has a byte fewer.
	if n := plan.Size(fullest()); n != mostBytes-1 {
		t.Errorf("the fullest layout has %v bytes", n)
	}
}

// P8.2: Take

func TestTakeGood(t *testing.T) {
	for n, l := range goods() {
		wantTake(t, "layout "+strconv.Itoa(n), bytesOf(bitsOf(l)), l, api.OK)
	}
}

func TestTakeNothing(t *testing.T) {
	wantTake(t, "nil", nil, api.Layout{}, api.ErrShort)
	wantTake(t, "empty", []byte{}, api.Layout{}, api.ErrShort)
	for n := range 11 {
		wantTake(t, "zeros", make([]byte, n), api.Layout{}, api.ErrShort)
	}
}

// Bits behind the last number that are not 0, or more than make whole bytes, are none of a layout.
func TestTakeBehind(t *testing.T) {
	for n, l := range goods() {
		s := bitsOf(l)
		for over := range (8 - len(s)%8) % 8 {
			wantTake(t, "layout "+strconv.Itoa(n)+", a bit over", bytesOf(s+strings.Repeat("0", over)+"1"), api.Layout{}, api.ErrForm)
		}
		for _, more := range [][]byte{{0}, {255}, {1}, {128}, {0, 0}, make([]byte, 500)} {
			wantTake(t, "layout "+strconv.Itoa(n)+" and more", append(bytesOf(s), more...), api.Layout{}, api.ErrForm)
		}
	}
}

// wrongs are layouts whose numbers may not be, but have room in their bits.
func wrongs() []api.Layout {
	var all []api.Layout
	for kind := range uint8(4) {
		for sections := 25; sections < 32; sections++ {
			all = append(all, stretch(kind, sections))
		}
	}
	for n := range 32 {
		sections, signals, exits, flanks, over := counted(n)
		for _, x := range []struct {
			l       api.Layout
			top, of int
		}{{sections, 24, 32}, {signals, 12, 16}, {exits, 12, 16}, {flanks, 16, 32}, {over, 2, 4}} {
			if n > x.top && n < x.of {
				all = append(all, x.l)
			}
		}
	}
	for n := range fullest().Sections {
		l := fullest()
		l.Sections[n].Kind = 0
		all = append(all, l)
	}
	for n := range places(new(loop())) {
		for x := range 1025 {
			l := loop()
			*places(&l)[n] = x
			if roomy(l) && !layout.Right(l) {
				all = append(all, l)
			}
		}
	}
	return all
}

// roomy tells whether each of a layout's numbers has room in its bits.
func roomy(l api.Layout) (ok bool) {
	// The reference panics where a number has none.
	defer func() { ok = recover() == nil && ok }()
	r := reader{s: bitsOf(l)}
	return layout.Same(r.layout(), l)
}

// A number that may not be does not end what is read: bits that end behind it are told ahead of it.
func TestTakeWrong(t *testing.T) {
	all := wrongs()
	if len(all) < 500 {
		t.Error("only", len(all), "are wrong")
	}
	for n, l := range all {
		b := bytesOf(bitsOf(l))
		what := "wrong " + strconv.Itoa(n)
		wantTake(t, what, b, api.Layout{}, api.ErrForm)
		wantTake(t, what+", and more", append(b, 0), api.Layout{}, api.ErrForm)
		for _, k := range []int{0, 1, len(b) / 2, len(b) - 2, len(b) - 1} {
			wantTake(t, what+", cut", b[:k], api.Layout{}, api.ErrShort)
		}
	}
}

// A kind 0 has no port, and no way: what comes behind it is read on.
func TestTakeNoKind(t *testing.T) {
	s := "00001 0000 0000 00000  00" + strings.Repeat("0", 70)
	b := bytesOf(s)
	wantTake(t, "kind 0", b, api.Layout{}, api.ErrForm)
	wantTake(t, "kind 0, cut", b[:len(b)-1], api.Layout{}, api.ErrShort)
	s = "00010 0001 0000 00000  00  01 0 0 00  00001 00" + strings.Repeat("0", 70)
	b = bytesOf(s)
	wantTake(t, "kind 0, and a plain one", b, api.Layout{}, api.ErrForm)
	wantTake(t, "kind 0, and a plain one, cut", b[:len(b)-1], api.Layout{}, api.ErrShort)
}

// A join that is told to be none is none, whatever section it is of, and what its kind does not have is none, too.
func TestTakeJoins(t *testing.T) {
	l, e := plan.Take(bytesOf("00011 0000 0000 00000  01 0 0 11  10 0 0 0 00 11  11 0 0 0 0 11 10" + strings.Repeat("0", 70)))
	want := stretch(1, 3)
	want.Sections[0].Class = [2]int{3, 0}
	want.Sections[1].Kind, want.Sections[1].Class = 2, [2]int{0, 3}
	want.Sections[2].Kind, want.Sections[2].Class = 3, [2]int{3, 2}
	if e != api.OK || !layout.Same(l, want) {
		t.Error(l, e)
	}
}

// agree tells of bytes that are taken otherwise than by the reference, and of what was taken, but is put as others; it answers whether they were taken.
func agree(t *testing.T, what string, b []byte) bool {
	t.Helper()
	l, err := taken(b)
	wantTake(t, what, b, l, err)
	if err != api.OK {
		return false
	}
	l, _ = plan.Take(b)
	if !layout.Right(l) {
		t.Errorf("%s: of %v a layout is taken that may not be", what, b)
	}
	wantPut(t, what, l, b)
	return true
}

func TestTakeSpoilt(t *testing.T) {
	took := 0
	for n, l := range goods()[:25] {
		b := bytesOf(bitsOf(l))
		for k := range 8 * len(b) {
			b[k/8] ^= 128 >> (k % 8)
			if agree(t, "layout "+strconv.Itoa(n)+", bit "+strconv.Itoa(k), b) {
				took++
			}
			b[k/8] ^= 128 >> (k % 8)
		}
	}
	if took < 1000 {
		t.Error("only", took, "were taken")
	}
}

func TestTakeAnything(t *testing.T) {
	roll := dice(8)
	for n := range 20000 {
		b := make([]byte, roll(320))
		for k := range b {
			b[k] = byte(roll(256))
		}
		agree(t, "bytes "+strconv.Itoa(n), b)
	}
	for n := range 1 << 16 {
		b := make([]byte, 2+roll(14))
		b[0], b[1] = byte(n>>8), byte(n)
		agree(t, "begins by "+strconv.Itoa(n), b)
	}
}

// P8.3: what is put is taken

func TestPutThenTake(t *testing.T) {
	for n, l := range goods() {
		what := "layout " + strconv.Itoa(n)
		b, e := plan.Put(l)
		if e != api.OK {
			t.Fatal(what, e)
		}
		wantTake(t, what, b, l, api.OK)
		for k := range b {
			wantTake(t, what+", "+strconv.Itoa(k)+" bytes", b[:k], api.Layout{}, api.ErrShort)
		}
		for more := range 256 {
			wantTake(t, what+" and "+strconv.Itoa(more), append(bytes.Clone(b), byte(more)), api.Layout{}, api.ErrForm)
		}
	}
}

func TestTakeThenPut(t *testing.T) {
	for n, l := range goods() {
		if !agree(t, "layout "+strconv.Itoa(n), bytesOf(bitsOf(l))) {
			t.Errorf("layout %v is not taken", n)
		}
	}
}

// R1: each call ends, at all arguments

func TestWildLayouts(t *testing.T) {
	wild := loop()
	for n, x := range places(&wild) {
		*x = numbers()[n*7%len(numbers())]
	}
	long := bare()
	long.Sections = make([]api.Section, 1<<16)
	long.Signals = make([]api.Signal, 1<<16)
	long.Exits = []api.Exit{{Over: make([]api.Step, 1<<16)}}
	long.Flanks = make([]api.Flank, 1<<16)
	for n, l := range []api.Layout{{}, wild, long, {Sections: long.Sections}, {Signals: long.Signals}, {Exits: long.Exits}, {Flanks: long.Flanks}} {
		wantNoPut(t, "wild "+strconv.Itoa(n), l)
	}
}

func TestLongBytes(t *testing.T) {
	for _, x := range []byte{0, 1, 85, 170, 255} {
		wantTake(t, "long", bytes.Repeat([]byte{x}, 1<<20), api.Layout{}, api.ErrForm)
	}
}

// R3: the same arguments, the same answers, whatever was called between

func TestTwice(t *testing.T) {
	for n, l := range goods() {
		b, e := plan.Put(l)
		x, f := plan.Take(b)
		plan.Take(b[:len(b)-1])
		plan.Put(api.Layout{})
		if again, err := plan.Put(l); err != e || !bytes.Equal(again, b) {
			t.Errorf("layout %v: Put answers otherwise the second time", n)
		}
		if again, err := plan.Take(b); err != f || !layout.Same(again, x) {
			t.Errorf("layout %v: Take answers otherwise the second time", n)
		}
	}
}

// R4: what is handed in is not changed, spare room included, and not kept; answers share nothing

// roomOf gives a layout with spare room behind each of its lists, and what all of it holds.
func roomOf(l api.Layout) (api.Layout, func() api.Layout) {
	own := layout.Own(l)
	sections, signals := append(own.Sections, api.Section{Kind: 9}), append(own.Signals, api.Signal{At: api.Port{S: 9}})
	exits, flanks := append(own.Exits, api.Exit{At: api.Port{S: 9}}), append(own.Flanks, api.Flank{S: 9})
	for n := range exits {
		exits[n].Over = append(exits[n].Over, api.Step{S: 9})
	}
	all := func() api.Layout {
		return layout.Own(api.Layout{Sections: sections, Signals: signals, Exits: exits, Flanks: flanks, Times: l.Times})
	}
	// The lists handed in are a piece shorter, and their overlaps have as many steps as before.
	given := api.Layout{Sections: sections[:len(sections)-1], Signals: signals[:len(signals)-1], Exits: exits[:len(exits)-1], Flanks: flanks[:len(flanks)-1], Times: l.Times}
	for n := range exits {
		exits[n].Over = exits[n].Over[:len(exits[n].Over)-1]
	}
	return given, all
}

func TestPutChangesNothing(t *testing.T) {
	for n, l := range goods() {
		given, all := roomOf(l)
		ahead := all()
		plan.Put(given)
		plan.Size(given)
		if !layout.Same(all(), ahead) || !layout.Same(given, l) {
			t.Errorf("layout %v is changed", n)
		}
		for k, x := range given.Exits {
			if x.Over[:len(x.Over)+1][len(x.Over)] != (api.Step{S: 9}) {
				t.Errorf("layout %v: behind the overlap %v something is changed", n, k)
			}
		}
	}
}

func TestTakeChangesNothing(t *testing.T) {
	for n, l := range goods() {
		b := append(bytesOf(bitsOf(l)), 1, 2, 3)
		ahead := bytes.Clone(b)
		for k := range len(b) - 2 {
			plan.Take(b[:k])
		}
		if !bytes.Equal(b, ahead) {
			t.Errorf("layout %v: the bytes are changed", n)
		}
	}
}

func TestAnswersShareNothing(t *testing.T) {
	for n, l := range goods() {
		what := "layout " + strconv.Itoa(n)
		given := layout.Own(l)
		b, _ := plan.Put(given)
		other, _ := plan.Put(given)
		x, _ := plan.Take(b)
		y, _ := plan.Take(b)
		// Each of what was handed in and of what was answered is changed, the ones behind it must not be.
		for _, at := range places(&given) {
			*at = 7
		}
		for _, at := range places(&x) {
			*at = 7
		}
		for k := range x.Exits {
			x.Exits[k].Over = append(x.Exits[k].Over, api.Step{S: 7})
		}
		if !layout.Same(y, l) {
			t.Errorf("%s: two that were taken share", what)
		}
		for k := range b {
			b[k] ^= 255
		}
		if !layout.Same(y, l) || !bytes.Equal(other, bytesOf(bitsOf(l))) {
			t.Errorf("%s: an answer is changed with what was handed in, or answered", what)
		}
		wantPut(t, what, y, other)
	}
}

// No two overlaps of a layout that was taken share, spare room included.
func TestOverlapsShareNothing(t *testing.T) {
	l, _ := plan.Take(bytesOf(bitsOf(fullest())))
	for n := range l.Exits {
		l.Exits[n].Over = append(l.Exits[n].Over[:0], api.Step{S: n}, api.Step{S: n}, api.Step{S: n})
	}
	for n, x := range l.Exits {
		for _, s := range x.Over {
			if s.S != n {
				t.Errorf("the overlap %v shares", n)
			}
		}
	}
}
