package words

import (
	"bytes"
	"errors"
	"math"
	"testing"

	"fellowship/api"
)

// turned reckons a turn to the left bit by bit: the reference for all turns.
func turned(x uint64, bits, n int) uint64 {
	var out uint64
	for i := range bits {
		to := ((i+n%bits)%bits + bits) % bits
		out |= x >> i & 1 << to
	}
	return out
}

// turns are the n that the chapter's words have edges at.
func turns() []int {
	out := []int{math.MinInt, math.MinInt + 1, math.MaxInt - 1, math.MaxInt, -1 << 32, 1 << 32, 1<<32 + 5}
	for n := -200; n <= 200; n++ {
		out = append(out, n)
	}
	return out
}

// opposite is a turn that undoes n modulo the word's bits, of the least int too.
func opposite(n, bits int) int { return -(n % bits) }

func TestTurnsAreTheWordModuloItsBits(t *testing.T) {
	for _, n := range turns() {
		for _, x := range []uint32{0, 1, 0x80000000, 0xffffffff, 0x12345678, 0xdeadbeef, 0x80000001} {
			if got, want := Left(x, n), uint32(turned(uint64(x), 32, n)); got != want {
				t.Errorf("Left(%#x, %d): %#x, not %#x", x, n, got, want)
			}
			if got, want := Right(x, n), uint32(turned(uint64(x), 32, opposite(n, 32))); got != want {
				t.Errorf("Right(%#x, %d): %#x, not %#x", x, n, got, want)
			}
		}
		for _, x := range []uint64{0, 1, 1 << 63, math.MaxUint64, 0x123456789abcdef0, 0xdeadbeef00c0ffee} {
			if got, want := Right64(x, n), turned(x, 64, opposite(n, 64)); got != want {
				t.Errorf("Right64(%#x, %d): %#x, not %#x", x, n, got, want)
			}
		}
	}
}

func TestTurnsThatAreWrittenOut(t *testing.T) {
	for _, c := range []struct {
		n           int
		left, right uint32
		right64     uint64
	}{
		{n: 0, left: 0x12345678, right: 0x12345678, right64: 0x123456789abcdef0},
		{n: 4, left: 0x23456781, right: 0x81234567, right64: 0x0123456789abcdef},
		{n: -4, left: 0x81234567, right: 0x23456781, right64: 0x23456789abcdef01},
		{n: 32, left: 0x12345678, right: 0x12345678, right64: 0x9abcdef012345678},
		{n: 36, left: 0x23456781, right: 0x81234567, right64: 0x89abcdef01234567},
		{n: 64, left: 0x12345678, right: 0x12345678, right64: 0x123456789abcdef0},
		{n: 68, left: 0x23456781, right: 0x81234567, right64: 0x0123456789abcdef},
		{n: -32, left: 0x12345678, right: 0x12345678, right64: 0x9abcdef012345678},
		{n: -64, left: 0x12345678, right: 0x12345678, right64: 0x123456789abcdef0},
	} {
		if got := Left(0x12345678, c.n); got != c.left {
			t.Errorf("Left by %d: %#x, not %#x", c.n, got, c.left)
		}
		if got := Right(0x12345678, c.n); got != c.right {
			t.Errorf("Right by %d: %#x, not %#x", c.n, got, c.right)
		}
		if got := Right64(0x123456789abcdef0, c.n); got != c.right64 {
			t.Errorf("Right64 by %d: %#x, not %#x", c.n, got, c.right64)
		}
	}
	if got := Left(0x80000000, 1); got != 1 {
		t.Errorf("the chapter's example: %#x", got)
	}
}

func TestNumbersOfBytes(t *testing.T) {
	for _, c := range []struct {
		b           []byte
		big, little uint64
	}{
		{nil, 0, 0},
		{[]byte{}, 0, 0},
		{[]byte{0xff}, 0xff, 0xff},
		{[]byte{1, 2}, 258, 513},
		{[]byte{0, 0, 1}, 1, 0x10000},
		{[]byte{1, 2, 3, 4, 5, 6, 7}, 0x01020304050607, 0x07060504030201},
		{[]byte{1, 2, 3, 4, 5, 6, 7, 8}, 0x0102030405060708, 0x0807060504030201},
		{[]byte{0x80, 0, 0, 0, 0, 0, 0, 0}, 1 << 63, 0x80},
		{bytes.Repeat([]byte{0xff}, 8), math.MaxUint64, math.MaxUint64},
	} {
		was := bytes.Clone(c.b)
		if got, err := Big(c.b); err != nil || got != c.big {
			t.Errorf("Big(% x): %#x, %v", c.b, got, err)
		}
		if got, err := Little(c.b); err != nil || got != c.little {
			t.Errorf("Little(% x): %#x, %v", c.b, got, err)
		}
		if !bytes.Equal(c.b, was) {
			t.Errorf("the row % x was changed", was)
		}
	}
}

func TestMoreThanEightBytesAreLong(t *testing.T) {
	for _, n := range []int{9, 10, 16, 1000} {
		for _, fill := range []byte{0, 1, 0xff} {
			b := bytes.Repeat([]byte{fill}, n)
			if got, err := Big(b); !errors.Is(err, api.ErrLong) || got != 0 {
				t.Errorf("Big of %d bytes: %d, %v", n, got, err)
			}
			if got, err := Little(b); !errors.Is(err, api.ErrLong) || got != 0 {
				t.Errorf("Little of %d bytes: %d, %v", n, got, err)
			}
		}
	}
}

func TestBytesOfNumbers(t *testing.T) {
	const x = 0x0102030405060708
	for _, c := range []struct {
		x           uint64
		n           int
		big, little []byte
	}{
		{x, 0, nil, nil},
		{x, 1, []byte{8}, []byte{8}},
		{x, 2, []byte{7, 8}, []byte{8, 7}},
		{258, 3, []byte{0, 1, 2}, []byte{2, 1, 0}},
		{x, 7, []byte{2, 3, 4, 5, 6, 7, 8}, []byte{8, 7, 6, 5, 4, 3, 2}},
		{x, 8, []byte{1, 2, 3, 4, 5, 6, 7, 8}, []byte{8, 7, 6, 5, 4, 3, 2, 1}},
		{0, 8, make([]byte, 8), make([]byte, 8)},
		{math.MaxUint64, 8, bytes.Repeat([]byte{0xff}, 8), bytes.Repeat([]byte{0xff}, 8)},
		{1 << 63, 7, make([]byte, 7), make([]byte, 7)},
	} {
		if got, err := PutBig(c.x, c.n); err != nil || !bytes.Equal(got, c.big) {
			t.Errorf("PutBig(%#x, %d): % x, %v", c.x, c.n, got, err)
		}
		if got, err := PutLittle(c.x, c.n); err != nil || !bytes.Equal(got, c.little) {
			t.Errorf("PutLittle(%#x, %d): % x, %v", c.x, c.n, got, err)
		}
	}
}

func TestBytesOutOfRange(t *testing.T) {
	for _, n := range []int{math.MinInt, -8, -1, 9, 16, 1 << 32, math.MaxInt} {
		if got, err := PutBig(1, n); !errors.Is(err, api.ErrRange) || len(got) != 0 {
			t.Errorf("PutBig to %d bytes: % x, %v", n, got, err)
		}
		if got, err := PutLittle(1, n); !errors.Is(err, api.ErrRange) || len(got) != 0 {
			t.Errorf("PutLittle to %d bytes: % x, %v", n, got, err)
		}
	}
}

func TestNumbersComeBack(t *testing.T) {
	for _, x := range []uint64{0, 1, 0xff, 0x100, 1 << 32, 1 << 63, math.MaxUint64, 0xdeadbeef00c0ffee} {
		for n := 0; n <= 8; n++ {
			low := x
			if n < 8 {
				low = x & (1<<(8*n) - 1)
			}
			big, _ := PutBig(x, n)
			if got, err := Big(big); err != nil || got != low || len(big) != n {
				t.Errorf("%#x in %d bytes comes back as %#x, %v", x, n, got, err)
			}
			little, _ := PutLittle(x, n)
			if got, err := Little(little); err != nil || got != low || len(little) != n {
				t.Errorf("%#x in %d bytes comes back as %#x, %v", x, n, got, err)
			}
		}
	}
}

func TestEqual(t *testing.T) {
	for _, c := range []struct {
		a, b []byte
		want bool
	}{
		{nil, nil, true},
		{nil, []byte{}, true},
		{[]byte{}, nil, true},
		{nil, []byte{0}, false},
		{[]byte{0}, nil, false},
		{[]byte{1, 2}, []byte{1, 2, 0}, false},
		{[]byte{1, 2, 3}, []byte{1, 2}, false},
		{[]byte{1, 2, 3}, []byte{1, 2, 3}, true},
		{[]byte{0x80}, []byte{0}, false},
		// Differences that undo one another in a sum or an exclusive or.
		{[]byte{1, 1}, []byte{2, 2}, false},
		{[]byte{1, 2}, []byte{2, 1}, false},
	} {
		if got := Equal(c.a, c.b); got != c.want {
			t.Errorf("Equal(% x, % x): %v", c.a, c.b, got)
		}
	}
}

func TestOneBitAnywhereParts(t *testing.T) {
	const n = 40
	for i := range n {
		for bit := range 8 {
			a := bytes.Repeat([]byte{0xa5}, n)
			b := bytes.Clone(a)
			b[i] ^= 1 << bit
			if Equal(a, b) || Equal(b, a) {
				t.Errorf("rows that part at byte %d, bit %d are the same", i, bit)
			}
			zeros := make([]byte, n)
			zeros[i] = 1 << bit
			if Zero(zeros) {
				t.Errorf("a row with bit %d of byte %d is 0", bit, i)
			}
		}
	}
}

func TestMix(t *testing.T) {
	for _, c := range []struct{ a, b, want []byte }{
		{nil, nil, nil},
		{[]byte{}, nil, nil},
		{[]byte{0x0f}, []byte{0xff}, []byte{0xf0}},
		{[]byte{1, 2, 3}, []byte{1, 2, 3}, []byte{0, 0, 0}},
		{[]byte{0, 0x80, 0x55}, []byte{7, 0, 0xff}, []byte{7, 0x80, 0xaa}},
	} {
		if got, err := Mix(c.a, c.b); err != nil || !bytes.Equal(got, c.want) {
			t.Errorf("Mix(% x, % x): % x, %v", c.a, c.b, got, err)
		}
	}
}

func TestMixOfUnlikeLengths(t *testing.T) {
	for _, c := range []struct{ a, b []byte }{
		{nil, []byte{0}},
		{[]byte{0}, nil},
		{[]byte{1, 2}, []byte{1}},
		{[]byte{1, 2}, []byte{1, 2, 3}},
	} {
		if got, err := Mix(c.a, c.b); !errors.Is(err, api.ErrForm) || len(got) != 0 {
			t.Errorf("Mix(% x, % x): % x, %v", c.a, c.b, got, err)
		}
	}
}

func TestRowsStayTheirOwners(t *testing.T) {
	a, b := []byte{1, 2, 3}, []byte{4, 5, 6}
	mixed, err := Mix(a, b)
	if err != nil {
		t.Fatal(err)
	}
	for i := range mixed {
		mixed[i] = 0xee
	}
	Equal(a, b)
	Zero(a)
	if !bytes.Equal(a, []byte{1, 2, 3}) || !bytes.Equal(b, []byte{4, 5, 6}) {
		t.Errorf("rows handed in were changed: % x, % x", a, b)
	}
	again, _ := Mix(a, b)
	a[0] = 0xff
	if !bytes.Equal(again, []byte{5, 7, 5}) {
		t.Errorf("a later change shows in what was answered: % x", again)
	}
}

func TestPick(t *testing.T) {
	for _, c := range []struct{ a, b uint64 }{{1, 2}, {2, 1}, {0, math.MaxUint64}, {math.MaxUint64, 0}, {7, 7}} {
		if got := Pick(true, c.a, c.b); got != c.a {
			t.Errorf("Pick(true, %d, %d): %d", c.a, c.b, got)
		}
		if got := Pick(false, c.a, c.b); got != c.b {
			t.Errorf("Pick(false, %d, %d): %d", c.a, c.b, got)
		}
	}
}

func TestZero(t *testing.T) {
	for _, b := range [][]byte{nil, {}, {0}, make([]byte, 8), make([]byte, 1000)} {
		if !Zero(b) {
			t.Errorf("a row of %d zeros isn't 0", len(b))
		}
	}
	for _, b := range [][]byte{{1}, {0x80}, {0, 0, 1}, {1, 0, 0}, {0x80, 0x80}, {1, 0xff}} {
		if Zero(b) {
			t.Errorf("% x is 0", b)
		}
	}
}
