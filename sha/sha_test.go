package sha

import (
	"bytes"
	"crypto/sha256"
	"encoding/hex"
	"testing"

	"fellowship/api"
)

// row is n bytes that differ along the way, by a rule that no block's length divides.
func row(n int) []byte {
	b := make([]byte, n)
	for i := range b {
		b[i] = byte(i*i + 7*i + i>>8)
	}
	return b
}

// reference is the digest as the library of the language has it.
func reference(b []byte) api.Hash { return sha256.Sum256(b) }

func TestDigestsThatAreWrittenOut(t *testing.T) {
	for _, c := range []struct {
		name string
		text []byte
		want string
	}{
		{"nothing", nil, "e3b0c44298fc1c149afbf4c8996fb92427ae41e4649b934ca495991b7852b855"},
		{"the chapter's example", []byte("abc"), "ba7816bf8f01cfea414140de5dae2223b00361a396177a9cb410ff61f20015ad"},
		{"the standard's 56 bytes", []byte("abcdbcdecdefdefgefghfghighijhijkijkljklmklmnlmnomnopnopq"), "248d6a61d20638b8e5c026930c3e6039a33ce45964ff2167f6ecedd419db06c1"},
		{"the standard's 112 bytes", []byte("abcdefghbcdefghicdefghijdefghijkefghijklfghijklmghijklmnhijklmnoijklmnopjklmnopqklmnopqrlmnopqrsmnopqrstnopqrstu"), "cf5b16a778af8380036ce59e7b0492370b249b11e8f07a51afac45037afee9d1"},
		{"a million of a", bytes.Repeat([]byte("a"), 1000000), "cdc76e5c9914fb9281a1c7e284d73e67f1809a48a497200e046d39ccc7112cd0"},
	} {
		if got := Sum(c.text); hex.EncodeToString(got[:]) != c.want {
			t.Errorf("Sum of %s: %x, not %s", c.name, got, c.want)
		}
		h := New()
		h.Write(c.text)
		if got := h.Sum(); hex.EncodeToString(got[:]) != c.want {
			t.Errorf("a hash of %s: %x, not %s", c.name, got, c.want)
		}
	}
}

func TestEveryLengthAboutTheEndsOfBlocks(t *testing.T) {
	for n := range 5*blockBytes + 2 {
		if got, want := Sum(row(n)), reference(row(n)); got != want {
			t.Errorf("Sum of %d bytes: %x, not %x", n, got, want)
		}
		// Rows of one byte over and over, so that an end which is mistaken for bytes shows.
		for _, c := range []byte{0, 0x80, 0xff} {
			same := bytes.Repeat([]byte{c}, n)
			if got, want := Sum(same), reference(same); got != want {
				t.Errorf("Sum of %d times %#x: %x, not %x", n, c, got, want)
			}
		}
	}
}

func TestALengthOfMoreThanOneByteOfBlocks(t *testing.T) {
	// From 2^13 and 2^21 bytes on the number of bits needs a third and a fourth byte.
	for _, n := range []int{1<<13 - 1, 1 << 13, 1<<13 + 1, 1 << 16, 1<<21 - 1, 1 << 21, 1<<21 + 65} {
		if got, want := Sum(row(n)), reference(row(n)); got != want {
			t.Errorf("Sum of %d bytes: %x, not %x", n, got, want)
		}
	}
}

func TestTheNumberOfBitsGoesPast32Bits(t *testing.T) {
	if testing.Short() {
		t.Skip("half a gigabyte of bytes")
	}
	piece := make([]byte, 1<<20)
	h, want := New(), sha256.New()
	for range 512 {
		h.Write(piece)
		want.Write(piece)
	}
	h.Write([]byte{1})
	want.Write([]byte{1})
	if got := h.Sum(); !bytes.Equal(got[:], want.Sum(nil)) {
		t.Errorf("of 2^29 bytes and one more: %x, not %x", got, want.Sum(nil))
	}
}

func TestPartsAreOneBehindTheOther(t *testing.T) {
	if got, want := Sum(), reference(nil); got != want {
		t.Errorf("Sum of no parts: %x, not %x", got, want)
	}
	if got, want := Sum(nil, []byte{}, nil), reference(nil); got != want {
		t.Errorf("Sum of empty parts: %x, not %x", got, want)
	}
	all := row(3*blockBytes + 5)
	for i := 0; i <= len(all); i++ {
		for _, j := range []int{i, i + 1, i + blockBytes - 1, i + blockBytes, len(all)} {
			j = min(j, len(all))
			if got, want := Sum(all[:i], nil, all[i:j], []byte{}, all[j:]), reference(all); got != want {
				t.Errorf("Sum of parts that end at %d and %d: %x, not %x", i, j, got, want)
			}
		}
	}
	if Sum([]byte("b"), []byte("a")) == Sum([]byte("ab")) {
		t.Error("the order of parts is lost")
	}
}

func TestPiecesOfOneLength(t *testing.T) {
	all := row(4*blockBytes + 3)
	for size := 1; size <= 2*blockBytes+1; size++ {
		h := New()
		for i := 0; i < len(all); i += size {
			h.Write(all[i:min(i+size, len(all))])
			h.Write(nil)
			h.Write([]byte{})
		}
		if got, want := h.Sum(), reference(all); got != want {
			t.Errorf("in pieces of %d: %x, not %x", size, got, want)
		}
	}
}

func TestPiecesOfManyLengthsWithSumsBetween(t *testing.T) {
	all := row(5000)
	seed := uint32(1)
	for range 20 {
		h := New()
		for i := 0; i < len(all); {
			seed = seed*1664525 + 1013904223
			n := min(int(seed>>16)%200, len(all)-i)
			h.Write(all[i : i+n])
			i += n
			if got, want := h.Sum(), reference(all[:i]); got != want {
				t.Fatalf("the sum of the first %d bytes: %x, not %x", i, got, want)
			}
		}
	}
}

func TestAHashGoesOnAsItWasBehindASum(t *testing.T) {
	all := row(3 * blockBytes)
	for n := range len(all) {
		h := New()
		h.Write(all[:n])
		first := h.Sum()
		if again := h.Sum(); again != first || first != reference(all[:n]) {
			t.Errorf("sums of %d bytes: %x and %x, not %x", n, first, again, reference(all[:n]))
		}
		h.Write(all[n:])
		if got, want := h.Sum(), reference(all); got != want {
			t.Errorf("with a sum behind %d bytes: %x, not %x", n, got, want)
		}
	}
}

func TestACopyGoesOnApart(t *testing.T) {
	all := row(3 * blockBytes)
	for n := range len(all) {
		h := New()
		h.Write(all[:n])
		c := h.Copy()
		if c.Sum() != reference(all[:n]) {
			t.Errorf("a copy of %d bytes: %x, not %x", n, c.Sum(), reference(all[:n]))
		}
		c.Write(all[n:])
		if h.Sum() != reference(all[:n]) {
			t.Errorf("the hash of %d bytes changed with its copy", n)
		}
		h.Write([]byte("another way"))
		if c.Sum() != reference(all) {
			t.Errorf("the copy of %d bytes changed with its hash", n)
		}
		if want := reference(append(bytes.Clone(all[:n]), "another way"...)); h.Sum() != want {
			t.Errorf("the hash of %d bytes didn't go on: %x, not %x", n, h.Sum(), want)
		}
		again := c.Copy().Copy()
		again.Write(all)
		if want := reference(append(bytes.Clone(all), all...)); again.Sum() != want {
			t.Errorf("a copy of a copy: %x, not %x", again.Sum(), want)
		}
	}
}

func TestHashesShareNothing(t *testing.T) {
	one := New()
	one.Write([]byte("one"))
	two := New()
	if two.Sum() != reference(nil) {
		t.Errorf("a new hash has bytes of another: %x", two.Sum())
	}
	two.Write([]byte("two"))
	if one.Sum() != reference([]byte("one")) || two.Sum() != reference([]byte("two")) {
		t.Error("two hashes come in one another's way")
	}
	if Sum([]byte("abc")) != reference([]byte("abc")) {
		t.Error("Sum has bytes of a hash")
	}
}

func TestBytesAreNeitherChangedNorKept(t *testing.T) {
	for _, n := range []int{1, 55, 56, 63, 64, 65, 128, 200} {
		given := append(row(n), 0xaa, 0xbb)[:n] // room behind, which must stay as it is too
		was := bytes.Clone(given[:n+2])
		h := New()
		h.Write(given)
		h.Sum()
		Sum(given, given)
		if !bytes.Equal(given[:n+2], was) {
			t.Errorf("%d bytes that were handed in are changed", n)
		}
		clear(given)
		if h.Sum() != reference(row(n)) {
			t.Errorf("%d bytes that were handed in are kept", n)
		}
	}
}

func TestADigestIsTheCallersOwn(t *testing.T) {
	h := New()
	h.Write([]byte("abc"))
	got := h.Sum()
	clear(got[:])
	if h.Sum() != reference([]byte("abc")) {
		t.Error("a digest that was answered is shared with the hash")
	}
}

func BenchmarkSum(b *testing.B) {
	text := row(1024)
	b.SetBytes(1024)
	for b.Loop() {
		Sum(text)
	}
}

func BenchmarkSumShort(b *testing.B) {
	text := row(40)
	for b.Loop() {
		Sum(text)
	}
}
