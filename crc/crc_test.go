package crc_test

import (
	"bytes"
	mathbits "math/bits"
	"testing"

	"lockbar/api"
	"lockbar/crc"
)

// mirrored is a state behind a bit by another way than the package's: the state lies the other way round, so that its lowest bit is its highest one.
func mirrored(state uint16, bit bool) uint16 {
	r := mathbits.Reverse16(state)
	out := r >= 0x8000
	r *= 2
	if out && !bit || !out && bit {
		r ^= 0x1021
	}
	return mathbits.Reverse16(r)
}

// through is a state behind bytes, by the same way.
func through(state uint16, l []byte) uint16 {
	for _, b := range l {
		for place := 1; place < 256; place *= 2 {
			state = mirrored(state, int(b)/place%2 == 1)
		}
	}
	return state
}

// pattern is so many bytes without a short period.
func pattern(n int) []byte {
	b := make([]byte, n)
	for i := range b {
		b[i] = byte(i*i*7 + i/3 + 5)
	}
	return b
}

// samples are bytes of many lengths, and such as are all alike.
func samples() [][]byte {
	all := [][]byte{nil, {}, {0}, {0xff}, {1}, {0x80}, {0xff, 0xff}, []byte("123456789")}
	for n := range 70 {
		all = append(all, pattern(n))
	}
	return append(all, make([]byte, 40), bytes.Repeat([]byte{0xff}, 64))
}

// burst is b, of which the bits that by tells are others, from the bit at on.
func burst(b []byte, at int, by uint16) []byte {
	o := bytes.Clone(b)
	for ; by != 0; by >>= 1 {
		if by&1 == 1 {
			o[at/8] ^= 1 << (at % 8)
		}
		at++
	}
	return o
}

func wantError(t *testing.T, what string, b []byte, want api.Errno) {
	t.Helper()
	if p, e := crc.Open(b); e != want || len(p) != 0 {
		t.Fatalf("Open, %s: %v: got %v, error %d; want nothing, error %d", what, b, p, e, want)
	}
}

func wantOpen(t *testing.T, b, want []byte) {
	t.Helper()
	if p, e := crc.Open(b); e != api.OK || !bytes.Equal(p, want) {
		t.Fatalf("Open(%v): got %v, error %d; want %v", b, p, e, want)
	}
}

// P2.1

func TestBit(t *testing.T) {
	for state := range 1 << 16 {
		for _, bit := range []bool{false, true} {
			s := uint16(state)
			if got, want := crc.Bit(s, bit), mirrored(s, bit); got != want {
				t.Fatalf("Bit(%#x, %v): got %#x, want %#x", s, bit, got, want)
			}
		}
	}
}

func TestBitByHand(t *testing.T) {
	for _, x := range []struct {
		state uint16
		bit   bool
		want  uint16
	}{
		{0, false, 0}, {0, true, 0x8408}, {1, false, 0x8408}, {1, true, 0},
		{2, false, 1}, {2, true, 0x8409}, {0x8000, false, 0x4000}, {0x8000, true, 0xc408},
		{0x8408, true, 0xc60c}, {0xffff, false, 0xfbf7}, {0xffff, true, 0x7fff},
	} {
		if got := crc.Bit(x.state, x.bit); got != x.want {
			t.Errorf("Bit(%#x, %v): got %#x, want %#x", x.state, x.bit, got, x.want)
		}
	}
}

func TestGoByAByte(t *testing.T) {
	for state := range 1 << 16 {
		s := uint16(state)
		b := byte(state*7 + state>>8)
		if got, want := crc.Go(s, b), through(s, []byte{b}); got != want {
			t.Fatalf("Go(%#x, %d): got %#x, want %#x", s, b, got, want)
		}
	}
	for b := range 256 {
		if got, want := crc.Go(0xffff, byte(b)), through(0xffff, []byte{byte(b)}); got != want {
			t.Errorf("Go(0xffff, %d): got %#x, want %#x", b, got, want)
		}
	}
}

func TestGoByNothing(t *testing.T) {
	for state := range 1 << 16 {
		s := uint16(state)
		if crc.Go(s) != s || crc.Go(s, []byte{}...) != s {
			t.Fatalf("the state %#x went on by nothing", s)
		}
	}
}

func TestGoAndSum(t *testing.T) {
	for _, b := range samples() {
		for _, s := range []uint16{0, 1, 0x8000, 0x8408, 0x5aa5, 0xffff} {
			if got, want := crc.Go(s, b...), through(s, b); got != want {
				t.Errorf("Go(%#x, %v): got %#x, want %#x", s, b, got, want)
			}
		}
		if got, want := crc.Sum(b), 0xffff-through(0xffff, b); got != want {
			t.Errorf("Sum(%v): got %#x, want %#x", b, got, want)
		}
	}
}

func TestSumByHand(t *testing.T) {
	for _, x := range []struct {
		b    []byte
		want uint16
	}{{[]byte("123456789"), 0x906e}, {nil, 0}, {[]byte{}, 0}, {[]byte{0}, 0xf078}, {[]byte{1, 7, 0}, 0xd118}} {
		if got := crc.Sum(x.b); got != x.want {
			t.Errorf("Sum(%v): got %#x, want %#x", x.b, got, x.want)
		}
	}
}

// P2.2

func TestClose(t *testing.T) {
	for _, b := range samples() {
		s := 0xffff - through(0xffff, b)
		want := append(bytes.Clone(b), byte(s%256), byte(s/256))
		if got := crc.Close(b); !bytes.Equal(got, want) {
			t.Errorf("Close(%v): got %v, want %v", b, got, want)
		}
	}
	if got := crc.Close([]byte("123456789")); !bytes.Equal(got, []byte("123456789\x6e\x90")) {
		t.Errorf("the lower byte comes first: %v", got)
	}
}

func TestOpenShort(t *testing.T) {
	wantError(t, "nil", nil, api.ErrShort)
	wantError(t, "no byte", []byte{}, api.ErrShort)
	for b := range 256 {
		wantError(t, "a byte", []byte{byte(b)}, api.ErrShort)
	}
}

func TestOpenTwoBytes(t *testing.T) {
	// Of nothing the sum is 0: all other two bytes are none that were closed.
	for sum := range 1 << 16 {
		b := []byte{byte(sum), byte(sum >> 8)}
		if sum == 0 {
			wantOpen(t, b, nil)
		} else {
			wantError(t, "two bytes", b, api.ErrCrc)
		}
	}
}

func TestOpenOneSumOnly(t *testing.T) {
	for _, b := range [][]byte{{0}, {1, 7, 0}, []byte("123456789")} {
		right := crc.Sum(b)
		for sum := range 1 << 16 {
			c := append(bytes.Clone(b), byte(sum), byte(sum>>8))
			if uint16(sum) == right {
				wantOpen(t, c, b)
			} else {
				wantError(t, "another sum", c, api.ErrCrc)
			}
		}
	}
}

func TestOpenSumTheOtherWayRound(t *testing.T) {
	for _, b := range [][]byte{{0}, {1, 7, 0}, []byte("123456789"), pattern(20)} {
		c := crc.Close(b)
		n := len(b)
		c[n], c[n+1] = c[n+1], c[n]
		wantError(t, "the higher byte first", c, api.ErrCrc)
		c[n], c[n+1] = ^c[n+1], ^c[n]
		wantError(t, "all bits the other way", c, api.ErrCrc)
	}
}

func TestOpenCutOrLonger(t *testing.T) {
	c := crc.Close([]byte("123456789"))
	for n := range len(c) {
		wantVerdict(t, c[:n])
	}
	for b := range 256 {
		wantVerdict(t, append(bytes.Clone(c), byte(b)))
	}
}

// wantVerdict wants what Open has to tell by the sum that another way finds.
func wantVerdict(t *testing.T, c []byte) {
	t.Helper()
	n := len(c) - 2
	if n < 0 {
		wantError(t, "too few bytes", c, api.ErrShort)
		return
	}
	s := 0xffff - through(0xffff, c[:n])
	if c[n] == byte(s%256) && c[n+1] == byte(s/256) {
		wantOpen(t, c, c[:n])
	} else {
		wantError(t, "not closed", c, api.ErrCrc)
	}
}

// P2.3

func TestClosedIsOpened(t *testing.T) {
	for _, b := range samples() {
		wantOpen(t, crc.Close(b), b)
		wantOpen(t, crc.Close(crc.Close(b)), crc.Close(b))
	}
	for i := range 1 << 16 {
		b := []byte{byte(i >> 8), byte(i)}
		wantOpen(t, crc.Close(b), b)
	}
	long := pattern(100003)
	wantOpen(t, crc.Close(long), long)
}

func TestEveryBurst(t *testing.T) {
	for _, b := range [][]byte{nil, {0}, {0xff, 0}, {3, 1, 4, 1, 5}} {
		c := crc.Close(b)
		for at := range 8 * len(c) {
			room := 8*len(c) - at
			// The bursts that begin at this bit: those that begin later come later.
			for by := 1; by < 1<<min(16, room); by += 2 {
				wantError(t, "a burst", burst(c, at, uint16(by)), api.ErrCrc)
			}
		}
	}
}

func TestBurstsOfLongOnes(t *testing.T) {
	for _, n := range []int{30, 62, 300} {
		c := crc.Close(pattern(n))
		for at := range 8*len(c) - 15 {
			for _, by := range []uint16{1, 2, 3, 0x8000, 0x8001, 0x8408, 0x8409, 0xffff, 0x5a5a, 0xaaaa} {
				wantError(t, "a burst", burst(c, at, by), api.ErrCrc)
			}
		}
	}
}

func TestLongerBurstsMayBeClosed(t *testing.T) {
	// 17 bits: what is folded in, and the bit that folds it. The bound of 16 is a sharp one.
	c := crc.Close(pattern(10))
	d := burst(c, 20, 1)
	d = burst(d, 21, 0x8408)
	wantOpen(t, d, d[:10])
}

func TestStatesGoOnByParts(t *testing.T) {
	for _, n := range []int{0, 1, 2, 9, 30} {
		b := pattern(n)
		for _, s := range []uint16{0, 77, 0xffff} {
			all := crc.Go(s, b...)
			for i := range n + 1 {
				for j := i; j <= n; j++ {
					if got := crc.Go(crc.Go(crc.Go(s, b[:i]...), b[i:j]...), b[j:]...); got != all {
						t.Fatalf("%v from %#x on, by parts at %d and %d: got %#x, want %#x", b, s, i, j, got, all)
					}
				}
			}
		}
	}
}

func TestBitsGoOnAsBytes(t *testing.T) {
	for _, b := range samples() {
		s := uint16(0x1234)
		for _, x := range b {
			for i := range 8 {
				s = crc.Bit(s, x>>i&1 == 1)
			}
		}
		if got := crc.Go(0x1234, b...); got != s {
			t.Errorf("%v: by bits %#x, by bytes %#x", b, s, got)
		}
	}
}

// R1 to R4

func TestNilIsEmpty(t *testing.T) {
	a, b := crc.Close(nil), crc.Close([]byte{})
	if crc.Sum(nil) != crc.Sum([]byte{}) || !bytes.Equal(a, b) || !bytes.Equal(a, []byte{0, 0}) {
		t.Errorf("closed nothing: %v, %v", a, b)
	}
}

func TestAnswersHangOnTheirArgumentsAlone(t *testing.T) {
	b := pattern(12)
	sum, state, closed := crc.Sum(b), crc.Go(9, b...), crc.Close(b)
	crc.Bit(3, true)
	crc.Go(5, 1, 2, 3)
	_, _ = crc.Open([]byte{1})
	_, _ = crc.Open([]byte{1, 2, 3})
	if crc.Sum(bytes.Clone(b)) != sum || crc.Go(9, b...) != state || !bytes.Equal(crc.Close(b), closed) {
		t.Error("the same arguments, other answers")
	}
}

// roomy is b in memory with spare room behind it.
func roomy(b []byte) (x, whole []byte) {
	whole = append(bytes.Clone(b), 0x77, 0x77, 0x77, 0x77)
	return whole[:len(b)], whole
}

func TestArgumentsStay(t *testing.T) {
	for _, n := range []int{0, 1, 2, 9, 64} {
		for _, b := range [][]byte{pattern(n), crc.Close(pattern(n))} {
			x, whole := roomy(b)
			was := bytes.Clone(whole)
			crc.Go(1, x...)
			crc.Sum(x)
			crc.Close(x)
			_, _ = crc.Open(x)
			if !bytes.Equal(whole, was) {
				t.Errorf("what was handed in has changed: %v, now %v", was, whole)
			}
		}
	}
}

func TestAnswersAreNewMemory(t *testing.T) {
	for _, n := range []int{0, 1, 9, 64} {
		x, whole := roomy(crc.Close(pattern(n)))
		was := bytes.Clone(whole)
		answers := func() [][]byte {
			opened, _ := crc.Open(x)
			again, _ := crc.Open(x)
			return [][]byte{crc.Close(x), crc.Close(x), opened, again}
		}
		fresh, all := answers(), answers()
		for i := range all {
			spoil(all[i])
			if !bytes.Equal(whole, was) {
				t.Fatalf("the answer %d shares memory with its argument", i)
			}
			for j := i + 1; j < len(all); j++ {
				if !bytes.Equal(all[j], fresh[j]) {
					t.Fatalf("the answers %d and %d share memory", i, j)
				}
			}
		}
	}
}

// spoil writes over all of an answer's memory, spare room too.
func spoil(b []byte) {
	b = b[:cap(b)]
	for i := range b {
		b[i] ^= 0xff
	}
}
