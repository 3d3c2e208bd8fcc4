package bits_test

import (
	"bytes"
	"math"
	"testing"

	"lockbar/api"
	"lockbar/bits"
)

// lay makes bits of a text of 0s and 1s, by another way than the package's.
func lay(text string) api.Bits {
	x := api.Bits{N: len(text)}
	for len(text)%8 != 0 {
		text += "0"
	}
	for ; text != ""; text = text[8:] {
		b := byte(0)
		for _, c := range text[:8] {
			b = 2*b + byte(c-'0')
		}
		x.B = append(x.B, b)
	}
	return x
}

// digits writes n in so many 0s and 1s, by another way than the package's.
func digits(n, width int) string {
	text := make([]byte, width)
	for i := range text {
		text[width-1-i] = byte('0' + n%2)
		n /= 2
	}
	return string(text)
}

// edges are numbers of a width: its lowest, its highest, and some whose bits tell their places.
func edges(width int) []int {
	top := 1<<width - 1
	return []int{0, top, top / 2, top - top/2, top & 1, 0x96f3a5c1 & top, 0x690c5a3e & top}
}

// pattern is a text of 0s and 1s without a period of a byte.
func pattern(n int) string {
	text := make([]byte, n)
	for i := range text {
		text[i] = byte('0' + (i*i/3+i/7)%2)
	}
	return string(text)
}

// wrongs are bits that may not be, each for a reason of its own.
func wrongs() map[string]api.Bits {
	return map[string]api.Bits{
		"N below 0":                {N: -1},
		"N below 0, with a byte":   {B: []byte{0}, N: -1},
		"a byte below 0":           {B: []byte{0}, N: -8},
		"more than a byte below 0": {N: -9},
		"the least N":              {N: math.MinInt},
		"the greatest N":           {N: math.MaxInt},
		"the greatest N, one byte": {B: []byte{0}, N: math.MaxInt},
		"no byte":                  {N: 1},
		"no byte, not nil":         {B: []byte{}, N: 8},
		"a byte too few":           {B: []byte{0}, N: 9},
		"a byte too many of none":  {B: []byte{0}},
		"a byte too many":          {B: []byte{0, 0}, N: 8},
		"a byte too many of part":  {B: []byte{0, 0}, N: 7},
		"the last bit is over":     {B: []byte{1}, N: 7},
		"the next bit is over":     {B: []byte{0x40}, N: 1},
		"all are over":             {B: []byte{0xff, 0xff}, N: 12},
	}
}

func isNothing(x api.Bits) bool { return len(x.B) == 0 && x.N == 0 }

func wantBits(t *testing.T, what string, got api.Bits, e api.Errno, want api.Bits) {
	t.Helper()
	if e != api.OK || got.N != want.N || !bytes.Equal(got.B, want.B) {
		t.Fatalf("%s: got %v, error %d; want %v", what, got, e, want)
	}
}

func wantNothing(t *testing.T, what string, got api.Bits, e api.Errno) {
	t.Helper()
	if e != api.ErrArg || !isNothing(got) {
		t.Errorf("%s: got %v, error %d; want nothing, ErrArg", what, got, e)
	}
}

func wantTake(t *testing.T, x api.Bits, at, width, n int, e api.Errno) {
	t.Helper()
	if got, ge := bits.Take(x, at, width); got != n || ge != e {
		t.Fatalf("Take(%v, %d, %d): got %d, error %d; want %d, error %d", x, at, width, got, ge, n, e)
	}
}

// P1.1

func TestRight(t *testing.T) {
	for n := range 70 {
		if x := lay(pattern(n)); !bits.Right(x) {
			t.Errorf("%v may be", x)
		}
	}
	for _, x := range []api.Bits{{}, {B: []byte{}}, {B: []byte{0xff}, N: 8}, {B: []byte{0xfe}, N: 7}, {B: []byte{1, 0x80}, N: 9}} {
		if !bits.Right(x) {
			t.Errorf("%v may be", x)
		}
	}
	for why, x := range wrongs() {
		if bits.Right(x) {
			t.Errorf("%s: %v may not be", why, x)
		}
	}
}

func TestRightOverBits(t *testing.T) {
	for n := 1; n <= 24; n++ {
		for bit := range 8 {
			x := lay(digits(0, n))
			place := 8*(len(x.B)-1) + bit
			x.B[len(x.B)-1] |= 128 >> bit
			if bits.Right(x) != (place < n) {
				t.Errorf("%d bits, the bit %d is 1: Right is %v", n, place, bits.Right(x))
			}
		}
	}
}

func TestOf(t *testing.T) {
	for _, b := range [][]byte{nil, {}, {0}, {1}, {0xff}, {0x80, 0, 1}, bytes.Repeat([]byte{0xa5}, 100)} {
		x := bits.Of(b)
		wantBits(t, "Of", x, api.OK, api.Bits{B: b, N: 8 * len(b)})
		if !bits.Right(x) {
			t.Errorf("the bits of %v may be", b)
		}
	}
}

func TestOwn(t *testing.T) {
	for _, text := range []string{"", "1", "01010101", pattern(29)} {
		x := lay(text)
		wantBits(t, "Own", bits.Own(x), api.OK, x)
	}
	for why, x := range wrongs() {
		if o := bits.Own(x); o.N != x.N || !bytes.Equal(o.B, x.B) {
			t.Errorf("%s: Own(%v) is %v", why, x, o)
		}
	}
}

func TestSame(t *testing.T) {
	texts := []string{"", "0", "1", "00", "01", "10", "11", "00000000", "10000000", "00000001", "000000000", pattern(20), pattern(21)}
	for i, a := range texts {
		for j, b := range texts {
			if bits.Same(lay(a), lay(b)) != (i == j) {
				t.Errorf("Same(%s, %s) is %v", a, b, i != j)
			}
		}
	}
	if !bits.Same(api.Bits{}, api.Bits{B: []byte{}}) || !bits.Same(api.Bits{B: []byte{}}, api.Bits{}) {
		t.Error("nil and empty mean the same")
	}
}

func TestSameOfWrongBits(t *testing.T) {
	all := wrongs()
	for a, x := range all {
		for b, y := range all {
			if bits.Same(x, y) != (a == b) {
				t.Errorf("Same of (%s), (%s) is %v", a, b, a != b)
			}
		}
	}
}

// P1.2

func TestPutExample(t *testing.T) {
	x, e := bits.Put(api.Bits{}, 5, 3)
	wantBits(t, "5 in 3 bits", x, e, api.Bits{B: []byte{160}, N: 3})
	y, e := bits.Put(x, 300, 9)
	wantBits(t, "and 300 in 9 bits", y, e, api.Bits{B: []byte{178, 192}, N: 12})
}

func TestPut(t *testing.T) {
	for at := range 20 {
		was := pattern(at)
		for width := range 33 {
			for _, n := range edges(width) {
				x, e := bits.Put(lay(was), n, width)
				wantBits(t, "Put "+was+" "+digits(n, width), x, e, lay(was+digits(n, width)))
				if !bits.Right(x) {
					t.Fatalf("%v may be", x)
				}
			}
		}
	}
}

func TestPutWrong(t *testing.T) {
	for _, x := range []api.Bits{{}, lay("101"), lay(pattern(16))} {
		for _, width := range []int{-1, -8, math.MinInt, 33, 64, 65, math.MaxInt} {
			for _, n := range []int{0, 1, -1, math.MaxInt, math.MinInt} {
				o, e := bits.Put(x, n, width)
				wantNothing(t, "a width out of its bounds", o, e)
			}
		}
		for width := range 33 {
			for _, n := range []int{-1, 1 << width, 1<<width + 1, math.MaxInt, math.MinInt, -1 << width} {
				o, e := bits.Put(x, n, width)
				wantNothing(t, "a number without room", o, e)
			}
		}
	}
}

func TestFlags(t *testing.T) {
	for at := range 18 {
		for count := range 20 {
			was, told := pattern(at), pattern(at + count)[at:]
			var l []bool
			for _, c := range told {
				l = append(l, c == '1')
			}
			x, e := bits.Flags(lay(was), l...)
			wantBits(t, "Flags "+was+" "+told, x, e, lay(was+told))
		}
	}
	x, e := bits.Flags(api.Bits{}, true, false, true)
	wantBits(t, "three flags", x, e, api.Bits{B: []byte{160}, N: 3})
	x, e = bits.Flags(lay("11"), []bool{}...)
	wantBits(t, "an empty list", x, e, lay("11"))
	long := make([]bool, 100003)
	long[100002] = true
	x, e = bits.Flags(lay("1"), long...)
	want := api.Bits{B: make([]byte, 12501), N: 100004}
	want.B[0], want.B[12500] = 0x80, 0x10
	wantBits(t, "a long list", x, e, want)
}

func TestPad(t *testing.T) {
	for n := range 34 {
		text := pattern(n)
		x, e := bits.Pad(lay(text))
		for len(text)%8 != 0 {
			text += "0"
		}
		wantBits(t, "Pad", x, e, lay(text))
		if x.N != 8*len(x.B) || !bits.Same(x, bits.Of(x.B)) {
			t.Errorf("%v is not whole bytes", x)
		}
	}
}

func TestWrongBits(t *testing.T) {
	for why, x := range wrongs() {
		for _, width := range []int{-1, 0, 1, 32, 33} {
			for _, n := range []int{-1, 0, 1} {
				o, e := bits.Put(x, n, width)
				wantNothing(t, "Put: "+why, o, e)
			}
			for _, at := range []int{-1, 0, 100, math.MaxInt} {
				if n, e := bits.Take(x, at, width); n != 0 || e != api.ErrArg {
					t.Errorf("Take: %s: got %d, error %d; want 0, ErrArg", why, n, e)
				}
			}
		}
		o, e := bits.Flags(x)
		wantNothing(t, "Flags of none: "+why, o, e)
		o, e = bits.Flags(x, true, false)
		wantNothing(t, "Flags: "+why, o, e)
		o, e = bits.Pad(x)
		wantNothing(t, "Pad: "+why, o, e)
	}
}

// P1.3

func TestTake(t *testing.T) {
	for at := range 20 {
		for width := range 33 {
			for _, n := range edges(width) {
				for _, tail := range []string{"", "1", "0110", pattern(17)} {
					wantTake(t, lay(pattern(at)+digits(n, width)+tail), at, width, n, api.OK)
				}
			}
		}
	}
}

func TestTakeWrong(t *testing.T) {
	for _, x := range []api.Bits{{}, {B: []byte{}}, lay("1"), lay(pattern(40)), lay(pattern(77))} {
		for _, width := range []int{-1, math.MinInt, 33, 64, math.MaxInt} {
			for _, at := range []int{math.MinInt, -1, 0, 1, 100, math.MaxInt} {
				wantTake(t, x, at, width, 0, api.ErrArg)
			}
		}
		for width := range 33 {
			for _, at := range []int{-1, -8, -width - 1, math.MinInt} {
				wantTake(t, x, at, width, 0, api.ErrArg)
			}
		}
	}
}

func TestTakeShort(t *testing.T) {
	for n := range 50 {
		x := lay(pattern(n))
		for width := range 33 {
			for _, at := range []int{max(0, n-width+1), n + 1, n + 8, 1 << 40, math.MaxInt - width, math.MaxInt} {
				wantTake(t, x, at, width, 0, api.ErrShort)
			}
		}
		wantTake(t, x, n, 0, 0, api.OK)
	}
}

// P1.4

func TestPutIsTaken(t *testing.T) {
	type put struct{ at, n, width int }
	for step := 1; step < 33; step++ {
		var x api.Bits
		var all []put
		for i := range 40 {
			width := i * step % 33
			n := edges(width)[(i+step)%7]
			all = append(all, put{x.N, n, width})
			y, e := bits.Put(x, n, width)
			if e != api.OK || y.N != x.N+width {
				t.Fatalf("Put(%v, %d, %d): %v, error %d", x, n, width, y, e)
			}
			x = y
		}
		for _, p := range all {
			wantTake(t, x, p.at, p.width, p.n, api.OK)
		}
	}
}

func TestWhatWasThereStays(t *testing.T) {
	for n := range 40 {
		was := lay(pattern(n))
		a, _ := bits.Put(was, 0x96f3a5c1, 32)
		b, _ := bits.Flags(was, true, true, false)
		c, _ := bits.Pad(was)
		for at := range n {
			bit := int(pattern(n)[at] - '0')
			for _, x := range []api.Bits{was, a, b, c, bits.Own(was)} {
				wantTake(t, x, at, 1, bit, api.OK)
			}
		}
	}
}

// tell takes all numbers, and errors, that such short bits tell.
func tell(x api.Bits) (r [9][9][2]int) {
	for at := range r {
		for width := range r[at] {
			n, e := bits.Take(x, at, width)
			r[at][width] = [2]int{n, int(e)}
		}
	}
	return r
}

func TestSameTellsTheSame(t *testing.T) {
	var all []api.Bits
	for n := range 7 {
		for i := range 1 << n {
			all = append(all, lay(digits(i, n)))
		}
	}
	for _, a := range all {
		for _, b := range all {
			if bits.Same(a, b) != (tell(a) == tell(b)) {
				t.Fatalf("%v, %v: Same is %v", a, b, bits.Same(a, b))
			}
		}
	}
}

// R1 to R4 (R2's order of errors: TestWrongBits, TestTakeWrong)

func TestAnswersHangOnTheirArgumentsAlone(t *testing.T) {
	x := lay(pattern(21))
	a, _ := bits.Put(x, 300, 9)
	_, _ = bits.Put(x, -1, 40)
	_, _ = bits.Take(x, 900, 3)
	b, _ := bits.Put(bits.Own(x), 300, 9)
	if !bits.Same(a, b) {
		t.Errorf("%v, then %v", a, b)
	}
}

// roomy has the bits of text in memory with spare room behind them.
func roomy(text string) (x api.Bits, whole []byte) {
	x = lay(text)
	whole = append(bytes.Clone(x.B), 0x77, 0x77, 0x77, 0x77, 0x77, 0x77)
	return api.Bits{B: whole[:len(x.B)], N: x.N}, whole
}

func TestArgumentsStay(t *testing.T) {
	for _, text := range []string{"", "1", pattern(8), pattern(13), pattern(32)} {
		x, whole := roomy(text)
		was := bytes.Clone(whole)
		l := []bool{true, false, true}
		_, _ = bits.Put(x, 0xffffffff, 32)
		_, _ = bits.Flags(x, l...)
		_, _ = bits.Pad(x)
		_, _ = bits.Take(x, 0, len(text))
		_, _, _ = bits.Of(x.B), bits.Own(x), bits.Same(x, x)
		if !bytes.Equal(whole, was) || !l[0] || l[1] || !l[2] {
			t.Errorf("%q: what was handed in has changed: %v, %v", text, whole, l)
		}
	}
}

func TestAnswersAreNewMemory(t *testing.T) {
	for _, text := range []string{pattern(8), pattern(13), pattern(32)} {
		x, whole := roomy(text)
		was := bytes.Clone(whole)
		answers := func() []api.Bits {
			put, _ := bits.Put(x, 1, 2)
			none, _ := bits.Put(x, 0, 0)
			flags, _ := bits.Flags(x, true)
			bare, _ := bits.Flags(x)
			pad, _ := bits.Pad(x)
			return []api.Bits{put, none, flags, bare, pad, bits.Of(x.B), bits.Own(x)}
		}
		fresh, all := answers(), answers()
		for i := range all {
			spoil(all[i])
			if !bytes.Equal(whole, was) {
				t.Fatalf("the answer %d shares memory with its argument", i)
			}
			for j := i + 1; j < len(all); j++ {
				if !bits.Same(all[j], fresh[j]) {
					t.Fatalf("the answers %d and %d share memory", i, j)
				}
			}
		}
	}
}

// spoil writes over all of an answer's memory, spare room too.
func spoil(x api.Bits) {
	b := x.B[:cap(x.B)]
	for i := range b {
		b[i] ^= 0xff
	}
}
