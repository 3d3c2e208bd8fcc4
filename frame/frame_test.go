package frame_test

import (
	"bytes"
	"testing"

	"lockbar/api"
	"lockbar/crc"
	"lockbar/frame"
)

// most is how many bytes a payload has at most, written out here, so that a wrong one would be seen.
const most = 59

// sum is that of bytes, by another way than package crc's: the bits are gone through one by one, by products and remainders.
func sum(l []byte) int {
	state := 65535
	for _, b := range l {
		for place := 1; place < 256; place *= 2 {
			unlike := state%2 != int(b)/place%2
			state /= 2
			if unlike {
				state ^= 33800
			}
		}
	}
	return 65535 - state
}

// closed are these bytes with their sum, the lower byte first.
func closed(l ...byte) []byte {
	s := sum(l)
	return append(bytes.Clone(l), byte(s%256), byte(s/256))
}

// laid are the bytes of a frame that may be, by another way than the package's.
func laid(f api.Frame) []byte {
	l := []byte{f.Kind, f.Seq, byte(len(f.Payload))}
	return closed(append(l, f.Payload...)...)
}

// pattern is so many bytes without a short period.
func pattern(n int) []byte {
	b := make([]byte, n)
	for i := range b {
		b[i] = byte(i*i*7 + i/3 + 5)
	}
	return b
}

// rights are frames that may be: of all kinds, of payloads of all lengths, with numbers at the edges.
func rights() []api.Frame {
	all := []api.Frame{
		{Kind: 1, Payload: []byte{}}, {Kind: 2, Seq: 2, Payload: []byte{0}}, {Kind: 3, Seq: 255, Payload: bytes.Repeat([]byte{255}, most)},
	}
	for kind := byte(1); kind <= 3; kind++ {
		for n := range most + 1 {
			for _, seq := range []byte{0, 1, 127, 128, 254, 255} {
				all = append(all, api.Frame{Kind: kind, Seq: seq, Payload: pattern(n)})
			}
		}
	}
	return all
}

// wrongs are frames that may not be, each for a reason of its own.
func wrongs() map[string]api.Frame {
	return map[string]api.Frame{
		"nothing":                          {},
		"kind 0":                           {Kind: 0, Seq: 7, Payload: []byte{1}},
		"kind 4":                           {Kind: 4},
		"kind 4, with a payload":           {Kind: 4, Payload: pattern(most)},
		"kind 129":                         {Kind: 129, Seq: 1},
		"kind 255":                         {Kind: 255, Payload: []byte{3}},
		"a byte too many":                  {Kind: 1, Payload: pattern(most + 1)},
		"as many bytes as a frame has":     {Kind: 2, Payload: pattern(64)},
		"as many as a byte tells":          {Kind: 3, Payload: pattern(255)},
		"as many as a byte tells as none":  {Kind: 1, Payload: pattern(256)},
		"as many as a byte tells as three": {Kind: 2, Payload: pattern(259)},
		"a great payload":                  {Kind: 3, Payload: pattern(100003)},
		"neither kind nor payload":         {Kind: 0, Payload: pattern(most + 1)},
	}
}

// burst is b, of which the bits that by tells are others, from the bit at on.
func burst(b []byte, at int, by uint16) []byte {
	o := bytes.Clone(b)
	for ; by != 0; by >>= 1 {
		if by&1 == 1 {
			o[at/8] ^= 1 << (at % 8)
		}
		at++
	}
	return o
}

// alike holds frames against each other without the package's help.
func alike(a, b api.Frame) bool {
	return a.Kind == b.Kind && a.Seq == b.Seq && string(a.Payload) == string(b.Payload)
}

func wantTaken(t *testing.T, b []byte, want api.Frame) {
	t.Helper()
	if f, e := frame.Take(b); e != api.OK || !alike(f, want) {
		t.Fatalf("Take(%v): got %v, error %d; want %v", b, f, e, want)
	}
}

func wantNone(t *testing.T, what string, b []byte, want api.Errno) {
	t.Helper()
	if f, e := frame.Take(b); e != want || f.Kind != 0 || f.Seq != 0 || len(f.Payload) != 0 {
		t.Fatalf("Take, %s: %v: got %v, error %d; want nothing, error %d", what, b, f, e, want)
	}
}

// P4.1

func TestLimitIsThatOfTheApi(t *testing.T) {
	if most != api.MaxFrame-5 {
		t.Errorf("a payload has at most %d bytes", api.MaxFrame-5)
	}
	if api.FrField != 1 || api.FrPanel != 2 || api.FrShow != 3 || api.Frames != 4 {
		t.Error("other kinds of frames")
	}
}

func TestRight(t *testing.T) {
	lengths := []int{255, 256, 257, 256 + most, 512, 65536, 1 << 20}
	for n := range 70 {
		lengths = append(lengths, n)
	}
	for _, n := range lengths {
		p := make([]byte, n)
		for kind := range 256 {
			want := kind >= 1 && kind <= 3 && n <= most
			if got := frame.Right(api.Frame{Kind: byte(kind), Seq: byte(n), Payload: p}); got != want {
				t.Errorf("kind %d, %d bytes: Right is %v", kind, n, got)
			}
		}
	}
}

func TestPutByHand(t *testing.T) {
	for _, x := range []struct {
		f    api.Frame
		want []byte
	}{
		{api.Frame{Kind: 1, Seq: 7}, []byte{1, 7, 0, 0x18, 0xd1}},
		{api.Frame{Kind: 1, Seq: 7, Payload: []byte{}}, []byte{1, 7, 0, 0x18, 0xd1}},
		{api.Frame{Kind: 3, Seq: 255, Payload: []byte{9, 8}}, closed(3, 255, 2, 9, 8)},
		{api.Frame{Kind: 2, Payload: []byte("123")}, closed(2, 0, 3, 49, 50, 51)},
	} {
		if b, e := frame.Put(x.f); e != api.OK || !bytes.Equal(b, x.want) {
			t.Errorf("Put(%v): got %v, error %d; want %v", x.f, b, e, x.want)
		}
	}
}

func TestPut(t *testing.T) {
	for _, f := range rights() {
		want := laid(f)
		if b, e := frame.Put(f); e != api.OK || !bytes.Equal(b, want) {
			t.Fatalf("Put(%v): got %v, error %d; want %v", f, b, e, want)
		}
		if n := frame.Size(f); n != len(want) || n > 64 {
			t.Fatalf("Size(%v): got %d, want %d", f, n, len(want))
		}
		if !frame.Right(f) {
			t.Fatalf("%v may be", f)
		}
	}
}

func TestSizeByHand(t *testing.T) {
	for n, want := range map[int]int{0: 5, 1: 6, 30: 35, 58: 63, 59: 64, 60: 0, 64: 0, 256: 0} {
		if got := frame.Size(api.Frame{Kind: 2, Seq: 9, Payload: make([]byte, n)}); got != want {
			t.Errorf("Size, %d bytes of payload: got %d, want %d", n, got, want)
		}
	}
}

func TestWrongFrames(t *testing.T) {
	for why, f := range wrongs() {
		if frame.Right(f) {
			t.Errorf("%s: it may not be", why)
		}
		if b, e := frame.Put(f); e != api.ErrArg || len(b) != 0 {
			t.Errorf("%s: Put: got %v, error %d; want nothing, ErrArg", why, b, e)
		}
		if n := frame.Size(f); n != 0 {
			t.Errorf("%s: Size is %d", why, n)
		}
	}
}

func TestOwn(t *testing.T) {
	for _, f := range rights() {
		if o := frame.Own(f); !alike(o, f) {
			t.Fatalf("Own(%v) is %v", f, o)
		}
	}
	for why, f := range wrongs() {
		if o := frame.Own(f); !alike(o, f) {
			t.Errorf("%s: Own(%v) is %v", why, f, o)
		}
	}
}

func TestSame(t *testing.T) {
	all := []api.Frame{
		{}, {Kind: 1}, {Kind: 2}, {Kind: 255}, {Seq: 1}, {Seq: 255}, {Kind: 1, Seq: 1}, {Payload: []byte{0}}, {Payload: []byte{1}},
		{Kind: 1, Payload: []byte{0}}, {Kind: 1, Payload: []byte{0, 0}}, {Kind: 1, Payload: []byte{0, 1}}, {Kind: 1, Payload: []byte{1, 0}},
		{Kind: 1, Seq: 1, Payload: []byte{1}}, {Kind: 3, Payload: pattern(most)}, {Kind: 3, Payload: pattern(most + 1)},
	}
	for i, a := range all {
		for j, b := range all {
			b.Payload = bytes.Clone(b.Payload)
			if frame.Same(a, b) != (i == j) {
				t.Errorf("Same(%v, %v) is %v", a, b, i != j)
			}
		}
	}
}

func TestSameInAllBytes(t *testing.T) {
	f := api.Frame{Kind: 2, Seq: 9, Payload: pattern(most)}
	for i := range f.Payload {
		o := api.Frame{Kind: 2, Seq: 9, Payload: pattern(most)}
		if !frame.Same(f, o) {
			t.Fatal("they are the same in all")
		}
		o.Payload[i]++
		if frame.Same(f, o) || frame.Same(o, f) {
			t.Errorf("the byte %d is another one", i)
		}
	}
}

// P4.2

func TestTake(t *testing.T) {
	for _, f := range rights() {
		wantTaken(t, laid(f), f)
	}
	wantTaken(t, []byte{1, 7, 0, 0x18, 0xd1}, api.Frame{Kind: 1, Seq: 7})
}

func TestTakeShort(t *testing.T) {
	whole := laid(api.Frame{Kind: 1, Seq: 7, Payload: []byte{1}})
	wantNone(t, "nil", nil, api.ErrShort)
	for n := range 5 {
		wantNone(t, "the beginning of a frame", whole[:n], api.ErrShort)
		wantNone(t, "so many bytes 0", make([]byte, n), api.ErrShort)
		if n >= 2 {
			// That they were closed does not help them.
			wantNone(t, "so many bytes that were closed", closed(pattern(n-2)...), api.ErrShort)
		}
	}
	wantNone(t, "not too few", whole[:5], api.ErrCrc)
	wantNone(t, "not too few", make([]byte, 5), api.ErrCrc)
}

func TestTakeSpoilt(t *testing.T) {
	for _, l := range [][]byte{
		{1, 7, 0}, {3, 255, 2, 9, 8}, {2, 0, 0}, append([]byte{2, 0, most}, pattern(most)...),
		// These would be of a wrong form, too: the sum comes first.
		{0, 0, 0}, {4, 7, 0}, {1, 7, 1}, {1, 7, 0, 1}, append([]byte{1, 7, most + 1}, pattern(most+1)...), pattern(1000),
	} {
		right := sum(l)
		for s := range 1 << 16 {
			if s == right {
				continue
			}
			if f, e := frame.Take(append(bytes.Clone(l), byte(s%256), byte(s/256))); e != api.ErrCrc || f.Kind != 0 || f.Seq != 0 || len(f.Payload) != 0 {
				t.Fatalf("Take of %v with the sum %d: got %v, error %d; want nothing, ErrCrc", l, s, f, e)
			}
		}
	}
}

func TestTakeSumTheOtherWayRound(t *testing.T) {
	b := laid(api.Frame{Kind: 1, Seq: 7})
	b[3], b[4] = b[4], b[3]
	wantNone(t, "the higher byte first", b, api.ErrCrc)
}

func TestTakeWrongKind(t *testing.T) {
	for kind := range 256 {
		for _, n := range []int{0, 1, 4, most} {
			l := append([]byte{byte(kind), 9, byte(n)}, pattern(n)...)
			if kind >= 1 && kind <= 3 {
				wantTaken(t, closed(l...), api.Frame{Kind: byte(kind), Seq: 9, Payload: pattern(n)})
			} else {
				wantNone(t, "a wrong kind", closed(l...), api.ErrForm)
			}
		}
	}
}

func TestTakeWrongSize(t *testing.T) {
	for _, n := range []int{0, 1, 2, 5, 58, most, most + 1, 61, 64, 200, 255, 256, 257, 256 + 59, 512} {
		for told := range 256 {
			b := closed(append([]byte{3, 9, byte(told)}, pattern(n)...)...)
			if told == n && n <= most {
				wantTaken(t, b, api.Frame{Kind: 3, Seq: 9, Payload: pattern(n)})
			} else {
				wantNone(t, "a wrong size", b, api.ErrForm)
			}
		}
	}
}

func TestTakeCutOrLonger(t *testing.T) {
	for _, f := range []api.Frame{{Kind: 1, Seq: 7}, {Kind: 2, Seq: 200, Payload: pattern(9)}, {Kind: 3, Payload: pattern(most)}} {
		b := laid(f)
		for n := 5; n < len(b); n++ {
			wantNone(t, "cut", b[:n], api.ErrCrc)
		}
		for more := range 256 {
			wantNone(t, "longer", append(bytes.Clone(b), byte(more)), api.ErrCrc)
		}
		wantNone(t, "closed twice", closed(b...), api.ErrForm)
		wantNone(t, "two of them", closed(append(bytes.Clone(b), b[:len(b)-2]...)...), api.ErrForm)
		wantNone(t, "a byte ahead", closed(append([]byte{0}, b[:len(b)-2]...)...), api.ErrForm)
		wantNone(t, "a byte 0 behind", closed(append(bytes.Clone(b[:len(b)-2]), 0)...), api.ErrForm)
	}
}

// P4.3

func TestNewer(t *testing.T) {
	for was := range 256 {
		var want [256]bool
		next := was
		for range 127 {
			next++
			if next == 256 {
				next = 0
			}
			want[next] = true
		}
		for n, w := range want {
			if got := frame.Newer(byte(n), byte(was)); got != w {
				t.Errorf("Newer(%d, %d) is %v", n, was, got)
			}
		}
	}
}

func TestNewerByHand(t *testing.T) {
	for _, x := range []struct {
		n, was byte
		want   bool
	}{
		{3, 250, true}, {250, 3, false}, {7, 200, true}, {200, 7, false}, {200, 200, false}, {1, 0, true}, {0, 1, false}, {0, 255, true}, {255, 0, false},
		{127, 0, true}, {128, 0, false}, {129, 0, false}, {126, 255, true}, {127, 255, false}, {255, 128, true}, {255, 127, false}, {0, 128, false}, {0, 129, true},
	} {
		if got := frame.Newer(x.n, x.was); got != x.want {
			t.Errorf("Newer(%d, %d) is %v", x.n, x.was, got)
		}
	}
}

// P4.4

func TestPutIsTaken(t *testing.T) {
	for _, f := range rights() {
		b, e := frame.Put(f)
		if e != api.OK {
			t.Fatalf("Put(%v): error %d", f, e)
		}
		wantTaken(t, b, f)
		if g, _ := frame.Take(b); !frame.Same(f, g) {
			t.Fatalf("%v, put and taken, is %v", f, g)
		}
	}
}

func TestTakenHasJustThoseBytes(t *testing.T) {
	taken := 0
	for kind := range 6 {
		for size := range 8 {
			for n := range 8 {
				for _, seq := range []byte{0, 128, 255} {
					b := closed(append([]byte{byte(kind), seq, byte(size)}, pattern(n)...)...)
					f, e := frame.Take(b)
					if e != api.OK {
						continue
					}
					taken++
					if again, e := frame.Put(f); e != api.OK || !bytes.Equal(again, b) {
						t.Errorf("taken of %v: %v; put: %v, error %d", b, f, again, e)
					}
				}
			}
		}
	}
	if taken != 3*8*3 {
		t.Errorf("%d were taken", taken)
	}
}

func TestEveryBurst(t *testing.T) {
	for _, f := range []api.Frame{{Kind: 1, Seq: 7}, {Kind: 2}, {Kind: 3, Seq: 255, Payload: []byte{255, 0, 1}}} {
		b, _ := frame.Put(f)
		for at := range 8 * len(b) {
			room := 8*len(b) - at
			// The bursts that begin at this bit: those that begin later come later.
			for by := 1; by < 1<<min(16, room); by += 2 {
				wantNone(t, "a burst", burst(b, at, uint16(by)), api.ErrCrc)
			}
		}
	}
}

func TestBurstsOfLongOnes(t *testing.T) {
	for _, n := range []int{20, 58, most} {
		b, _ := frame.Put(api.Frame{Kind: 2, Seq: 77, Payload: pattern(n)})
		for at := range 8*len(b) - 15 {
			for _, by := range []uint16{1, 2, 3, 0x8000, 0x8001, 0x8408, 0x8409, 0xffff, 0x5a5a, 0xaaaa} {
				wantNone(t, "a burst", burst(b, at, by), api.ErrCrc)
			}
		}
	}
}

func TestJustOneIsNewer(t *testing.T) {
	for a := range 256 {
		for b := range 256 {
			ab, ba := frame.Newer(byte(a), byte(b)), frame.Newer(byte(b), byte(a))
			apart := a - b
			if apart < 0 {
				apart = -apart
			}
			switch {
			case apart == 0 || apart == 128:
				if ab || ba {
					t.Errorf("of %d and %d one is newer", a, b)
				}
			case ab == ba:
				t.Errorf("of %d and %d not just one is newer", a, b)
			}
		}
	}
}

// R1 to R4 (R2's order of errors: TestTakeShort, TestTakeSpoilt)

func TestNilIsEmpty(t *testing.T) {
	none, empty := api.Frame{Kind: 2, Seq: 3}, api.Frame{Kind: 2, Seq: 3, Payload: []byte{}}
	a, _ := frame.Put(none)
	b, _ := frame.Put(empty)
	if !bytes.Equal(a, b) || frame.Size(none) != frame.Size(empty) || frame.Right(none) != frame.Right(empty) || !frame.Same(none, empty) || !frame.Same(empty, none) {
		t.Errorf("%v, %v", a, b)
	}
	for _, f := range []api.Frame{none, empty} {
		if o := frame.Own(f); !frame.Same(o, none) || !frame.Same(o, empty) {
			t.Errorf("Own(%v) is %v", f, o)
		}
	}
	wantNone(t, "nil", nil, api.ErrShort)
	wantNone(t, "empty", []byte{}, api.ErrShort)
}

func TestGreatBytesAreNone(t *testing.T) {
	long := pattern(100003)
	wantNone(t, "many bytes", long, api.ErrCrc)
	wantNone(t, "many bytes that were closed", crc.Close(long), api.ErrForm)
	wantNone(t, "many bytes, as of a frame", closed(append([]byte{1, 7, 0}, make([]byte, 65536)...)...), api.ErrForm)
}

func TestAnswersHangOnTheirArgumentsAlone(t *testing.T) {
	f := api.Frame{Kind: 3, Seq: 12, Payload: pattern(12)}
	was, _ := frame.Put(f)
	for _, g := range wrongs() {
		_, _ = frame.Put(g)
		_, _ = frame.Take(g.Payload)
		frame.Newer(g.Seq, g.Kind)
		now, e := frame.Put(f)
		if e != api.OK || !bytes.Equal(now, was) {
			t.Fatalf("the same frame, other bytes: %v, %v", was, now)
		}
		wantTaken(t, was, f)
	}
}

// roomy is b in memory with spare room behind it.
func roomy(b []byte) (x, whole []byte) {
	whole = append(bytes.Clone(b), 0x77, 0x77, 0x77, 0x77, 0x77, 0x77)
	return whole[:len(b)], whole
}

func TestArgumentsStay(t *testing.T) {
	for _, n := range []int{0, 1, 2, 9, most, most + 1, 300} {
		f := api.Frame{Kind: 1, Seq: 7, Payload: pattern(n)}
		for _, b := range [][]byte{pattern(n), laid(f)} {
			x, whole := roomy(b)
			was := bytes.Clone(whole)
			g := api.Frame{Kind: 1, Seq: 7, Payload: x}
			frame.Right(g)
			_, _ = frame.Put(g)
			_, _ = frame.Take(x)
			frame.Size(g)
			frame.Own(g)
			frame.Same(g, g)
			if !bytes.Equal(whole, was) {
				t.Errorf("what was handed in has changed: %v, now %v", was, whole)
			}
		}
	}
}

func TestAnswersAreNewMemory(t *testing.T) {
	for _, n := range []int{0, 1, 9, most} {
		x, whole := roomy(pattern(n))
		f := api.Frame{Kind: 1, Seq: 7, Payload: x}
		y, sent := roomy(laid(f))
		was, wasSent := bytes.Clone(whole), bytes.Clone(sent)
		answers := func() [][]byte {
			put, _ := frame.Put(f)
			again, _ := frame.Put(f)
			taken, _ := frame.Take(y)
			twice, _ := frame.Take(y)
			return [][]byte{put, again, taken.Payload, twice.Payload, frame.Own(f).Payload, frame.Own(f).Payload}
		}
		fresh, all := answers(), answers()
		for i := range all {
			spoil(all[i])
			if !bytes.Equal(whole, was) || !bytes.Equal(sent, wasSent) {
				t.Fatalf("the answer %d shares memory with its argument", i)
			}
			for j := i + 1; j < len(all); j++ {
				if !bytes.Equal(all[j], fresh[j]) {
					t.Fatalf("the answers %d and %d share memory", i, j)
				}
			}
		}
	}
}

// spoil writes over all of an answer's memory, spare room too.
func spoil(b []byte) {
	b = b[:cap(b)]
	for i := range b {
		b[i] ^= 0xff
	}
}
