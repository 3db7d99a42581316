package frame_test

import (
	"bytes"
	"hash/crc32"
	"math"
	"math/rand"
	"testing"

	"tollgate/api"
	"tollgate/frame"
)

func randomBytes(r *rand.Rand, size int) []byte {
	b := make([]byte, size)
	r.Read(b)
	return b
}

func framed(t *testing.T, b []byte) []byte {
	t.Helper()
	f, e := frame.Frame(b)
	if e != api.OK {
		t.Fatalf("Frame of %d bytes: error %d", len(b), e)
	}
	return f
}

// wantNext holds Next's whole answer against what is wanted, so that every error must come with zero values.
func wantNext(t *testing.T, what string, b []byte, at int, held []byte, behind int, errno api.Errno) {
	t.Helper()
	h, p, e := frame.Next(b, at)
	if e != errno || p != behind || !bytes.Equal(h, held) {
		t.Errorf("%s: Next at %d: got %x, %d, error %d; want %x, %d, error %d", what, at, h, p, e, held, behind, errno)
	}
}

// P1.1
func TestSumExamples(t *testing.T) {
	for _, c := range []struct {
		text string
		sum  uint32
	}{{"", 0}, {"123456789", 0xcbf43926}, {"\x00\x00\x00\x00", 0x2144df1c}, {"a", 0xe8b7be43}, {"\xff", 0xff000000}} {
		if got := frame.Sum([]byte(c.text)); got != c.sum {
			t.Errorf("Sum of %q: %08x, want %08x", c.text, got, c.sum)
		}
	}
	if frame.Sum(nil) != 0 {
		t.Error("Sum of nil is not 0")
	}
}

// P1.1
func TestSumIsCRC32(t *testing.T) {
	r := rand.New(rand.NewSource(1))
	for size := range 300 {
		b := randomBytes(r, size)
		if got, want := frame.Sum(b), crc32.ChecksumIEEE(b); got != want {
			t.Fatalf("Sum of %x: %08x, want %08x", b, got, want)
		}
		if frame.Extend(0, b) != frame.Sum(b) {
			t.Fatalf("Extend of 0 by %x is not its Sum", b)
		}
	}
}

// P1.1
func TestExtendFromAnySum(t *testing.T) {
	r := rand.New(rand.NewSource(2))
	for _, sum := range []uint32{0, 1, 0x80000000, math.MaxUint32, 0xcbf43926, r.Uint32()} {
		if frame.Extend(sum, nil) != sum {
			t.Errorf("Extend of %08x by nothing is another sum", sum)
		}
		for size := range 20 {
			b := randomBytes(r, size)
			if got, want := frame.Extend(sum, b), crc32.Update(sum, crc32.IEEETable, b); got != want {
				t.Errorf("Extend of %08x by %x: %08x, want %08x", sum, b, got, want)
			}
		}
	}
}

// P1.2
func TestFrameBytes(t *testing.T) {
	for _, c := range []struct{ held, bytes string }{
		{"", "\x00\x00\x00\x00\x21\x44\xdf\x1c"},
		{"a", "\x00\x00\x00\x01\xe5\x8c\x97\x92a"},
	} {
		if got := framed(t, []byte(c.held)); string(got) != c.bytes {
			t.Errorf("Frame of %q: %x, want %x", c.held, got, c.bytes)
		}
	}
	if got := framed(t, nil); string(got) != "\x00\x00\x00\x00\x21\x44\xdf\x1c" {
		t.Errorf("Frame of nil: %x", got)
	}
}

// P1.2
func TestFrameLayout(t *testing.T) {
	r := rand.New(rand.NewSource(3))
	for _, size := range []int{0, 1, 2, 255, 256, 257, 65535, api.MaxFrame} {
		b := randomBytes(r, size)
		length := []byte{byte(size >> 24), byte(size >> 16), byte(size >> 8), byte(size)}
		sum := crc32.ChecksumIEEE(append(bytes.Clone(length), b...))
		want := append(length, byte(sum>>24), byte(sum>>16), byte(sum>>8), byte(sum))
		if !bytes.Equal(framed(t, b), append(want, b...)) {
			t.Errorf("Frame of %d bytes is laid wrong", size)
		}
	}
}

// P1.2
func TestFrameLimit(t *testing.T) {
	for _, size := range []int{api.MaxFrame + 1, 2 * api.MaxFrame} {
		if f, e := frame.Frame(make([]byte, size)); e != api.ErrLimit || len(f) != 0 {
			t.Errorf("Frame of %d bytes: %d bytes, error %d", size, len(f), e)
		}
	}
}

// P1.3
func TestNextPlaces(t *testing.T) {
	f := framed(t, []byte("gate"))
	for _, at := range []int{-1, math.MinInt, len(f) + 1, math.MaxInt} {
		wantNext(t, "a place that is none", f, at, nil, 0, api.ErrArg)
	}
	wantNext(t, "the place 0", f, 0, []byte("gate"), len(f), api.OK)
	wantNext(t, "the place len(b)", f, len(f), nil, 0, api.ErrShort)
	wantNext(t, "nil", nil, 0, nil, 0, api.ErrShort)
	wantNext(t, "nil", nil, 1, nil, 0, api.ErrArg)
	two := append(append([]byte("ahead"), f...), "behind"...)
	wantNext(t, "in the middle", two, 5, []byte("gate"), 5+len(f), api.OK)
	two[5+4] ^= 1
	wantNext(t, "another sum in the middle", two, 5, nil, 0, api.ErrSum)
	wantNext(t, "short in the middle", two[:5+len(f)-1], 5, nil, 0, api.ErrShort)
	two[5] = 1
	wantNext(t, "past the limit in the middle", two, 5, nil, 0, api.ErrLimit)
}

// P1.3: the errors in their order, each beside those that are named behind it.
func TestNextErrors(t *testing.T) {
	tooLong := []byte{0, 1, 0, 1, 0, 0, 0, 0}
	wantNext(t, "seven bytes of a length past the limit", tooLong[:7], 0, nil, 0, api.ErrShort)
	wantNext(t, "past the limit, and short, and of another sum", tooLong, 0, nil, 0, api.ErrLimit)
	wantNext(t, "the greatest length", []byte{255, 255, 255, 255, 0, 0, 0, 0}, 0, nil, 0, api.ErrLimit)
	wantNext(t, "a length with its highest bit set", []byte{128, 0, 0, 0, 0, 0, 0, 0}, 0, nil, 0, api.ErrLimit)
	wantNext(t, "the limit, and short", []byte{0, 1, 0, 0, 0, 0, 0, 0}, 0, nil, 0, api.ErrShort)
	wantNext(t, "short, and of another sum", []byte{0, 0, 0, 2, 0, 0, 0, 0, 7}, 0, nil, 0, api.ErrShort)
	wantNext(t, "another sum", []byte{0, 0, 0, 1, 0, 0, 0, 0, 7}, 0, nil, 0, api.ErrSum)
	past := append(tooLong, make([]byte, api.MaxFrame+1)...)
	wantNext(t, "past the limit, and whole", past, 0, nil, 0, api.ErrLimit)
	greatest := make([]byte, api.MaxFrame)
	f := framed(t, greatest)
	wantNext(t, "the greatest frame", f, 0, greatest, len(f), api.OK)
	f[len(f)-1] ^= 1
	wantNext(t, "the greatest frame, turned", f, 0, nil, 0, api.ErrSum)
}

// P1.4 and P1.8
func TestAllTellsFramesAheadOfRest(t *testing.T) {
	r := rand.New(rand.NewSource(4))
	broken := framed(t, []byte("broken"))
	broken[5] ^= 1
	behindBroken := append(bytes.Clone(broken), framed(t, []byte("unseen"))...)
	rests := [][]byte{nil, {0}, {0, 0, 0, 0, 0, 0, 0}, make([]byte, 8), {255, 255, 255, 255, 0, 0, 0, 0, 0}, framed(t, []byte("cut"))[:10], behindBroken}
	for count := range 6 {
		var held [][]byte
		var b []byte
		for range count {
			held = append(held, randomBytes(r, r.Intn(40)))
			b = append(b, framed(t, held[len(held)-1])...)
		}
		for _, rest := range rests {
			wantAll(t, append(bytes.Clone(b), rest...), held, len(b))
		}
	}
}

func wantAll(t *testing.T, b []byte, held [][]byte, behind int) {
	t.Helper()
	all, at := frame.All(b)
	if len(all) != len(held) || at != behind {
		t.Fatalf("All of %x: %d frames up to %d, want %d up to %d", b, len(all), at, len(held), behind)
	}
	for i := range held {
		if !bytes.Equal(all[i], held[i]) {
			t.Fatalf("All of %x: frame %d is %x, want %x", b, i, all[i], held[i])
		}
	}
}

// P1.4
func TestAllOfNone(t *testing.T) {
	wantAll(t, nil, nil, 0)
	wantAll(t, []byte{}, nil, 0)
	wantAll(t, append([]byte{1}, framed(t, []byte("not at the beginning"))...), nil, 0)
	wantAll(t, framed(t, nil), [][]byte{{}}, 8)
}

// P1.5
func TestSumOfTwoRows(t *testing.T) {
	b := randomBytes(rand.New(rand.NewSource(5)), 100)
	for i := range len(b) + 1 {
		if frame.Extend(frame.Sum(b[:i]), b[i:]) != frame.Sum(b) {
			t.Errorf("cut at %d the sum is another one", i)
		}
	}
}

// P1.6
func TestNextOfFrame(t *testing.T) {
	r := rand.New(rand.NewSource(6))
	for size := range 70 {
		b := randomBytes(r, size)
		f := framed(t, b)
		wantNext(t, "whole", f, 0, b, len(f), api.OK)
		for cut := range f {
			wantNext(t, "cut short", f[:cut:cut], 0, nil, 0, api.ErrShort)
		}
		wantTurnedRefused(t, f)
	}
}

func wantTurnedRefused(t *testing.T, f []byte) {
	t.Helper()
	for bit := range 8 * len(f) {
		f[bit/8] ^= 1 << (bit % 8)
		if bit >= 32 {
			wantNext(t, "a bit of the sum or of what is held turned", f, 0, nil, 0, api.ErrSum)
		} else if _, _, e := frame.Next(f, 0); e == api.OK {
			t.Errorf("bit %d of the length turned in %x: taken", bit, f)
		}
		f[bit/8] ^= 1 << (bit % 8)
	}
}

// P1.7
func TestSumOfXor(t *testing.T) {
	r := rand.New(rand.NewSource(7))
	for size := range 100 {
		a, b, c := randomBytes(r, size), randomBytes(r, size), randomBytes(r, size)
		x := make([]byte, size)
		for i := range x {
			x[i] = a[i] ^ b[i] ^ c[i]
		}
		if frame.Sum(x) != frame.Sum(a)^frame.Sum(b)^frame.Sum(c) {
			t.Errorf("%d bytes: the sum of the xor is not the xor of the sums", size)
		}
	}
}

// P1: no bytes and no place make a call panic.
func TestNoBytesPanic(t *testing.T) {
	r := rand.New(rand.NewSource(8))
	for range 20000 {
		b := randomBytes(r, r.Intn(24))
		if len(b) > 3 && r.Intn(2) == 0 {
			copy(b, []byte{0, 0, 0, byte(r.Intn(20))})
		}
		at := r.Intn(30) - 3
		held, behind, e := frame.Next(b, at)
		if e != api.OK && (held != nil || behind != 0) {
			t.Fatalf("Next(%x, %d): error %d beside %x, %d", b, at, e, held, behind)
		}
		frame.All(b)
	}
}

// P3: nothing of what was handed in is changed, spare room too, and no answer lies in it or in another answer.
func TestMemory(t *testing.T) {
	room := bytes.Repeat([]byte{0xaa}, 64)
	b := append(room[:0], "held"...)
	whole := bytes.Clone(room)
	f := framed(t, b)
	if !bytes.Equal(room, whole) {
		t.Error("Frame changed what it was given")
	}
	b[0] = 'H'
	if string(f[8:]) != "held" {
		t.Error("a frame lies in what was handed in")
	}
	two := append(bytes.Clone(f), f...)
	before := bytes.Clone(two)
	all, _ := frame.All(two)
	held, _, _ := frame.Next(two, 0)
	for i := range held {
		held[i] = '!'
	}
	_ = append(all[0], "over the end of the first one"...)
	all[0][0] = '?'
	if !bytes.Equal(two, before) {
		t.Error("an answer lies in what was handed in")
	}
	if string(all[0]) != "?eld" || string(all[1]) != "held" {
		t.Error("answers lie in one another")
	}
}

// P6: what was asked ahead changes no answer.
func TestNothingIsKept(t *testing.T) {
	a := framed(t, []byte("first"))
	frame.Next(a, 3)
	frame.Frame(make([]byte, api.MaxFrame+1))
	if !bytes.Equal(a, framed(t, []byte("first"))) || frame.Sum([]byte("123456789")) != 0xcbf43926 {
		t.Error("a second call answers otherwise")
	}
}
