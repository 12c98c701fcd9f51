package shawide

import (
	"bytes"
	"crypto/sha512"
	"encoding/hex"
	"errors"
	"math"
	"testing"

	"fellowship/api"
)

// row is n bytes that differ along the way, by a rule that no block's length divides.
func row(n int) []byte {
	b := make([]byte, n)
	for i := range b {
		b[i] = byte(i*i + 7*i + i>>8)
	}
	return b
}

// reference is the digest as the library of the language has it.
func reference(b []byte) api.Wide { return sha512.Sum512(b) }

func TestDigestsThatAreWrittenOut(t *testing.T) {
	for _, c := range []struct {
		name string
		text []byte
		want string
	}{
		{"nothing", nil, "cf83e1357eefb8bdf1542850d66d8007d620e4050b5715dc83f4a921d36ce9ce47d0d13c5d85f2b0ff8318d2877eec2f63b931bd47417a81a538327af927da3e"},
		{"the chapter's example", []byte("abc"), "ddaf35a193617abacc417349ae20413112e6fa4e89a97ea20a9eeee64b55d39a2192992a274fc1a836ba3c23a3feebbd454d4423643ce80e2a9ac94fa54ca49f"},
		{"the standard's 112 bytes", []byte("abcdefghbcdefghicdefghijdefghijkefghijklfghijklmghijklmnhijklmnoijklmnopjklmnopqklmnopqrlmnopqrsmnopqrstnopqrstu"), "8e959b75dae313da8cf4f72814fc143f8f7779c6eb9f7fa17299aeadb6889018501d289e4900f7e4331b99dec4b5433ac7d329eeb6dd26545e96e55b874be909"},
		{"a million of a", bytes.Repeat([]byte("a"), 1000000), "e718483d0ce769644e2e42c7bc15b4638e1f98b13b2044285632a803afa973ebde0ff244877ea60a4cb0432ce577c31beb009c5c2c49aa2e4eadb217ad8cc09b"},
	} {
		if got := Sum(c.text); hex.EncodeToString(got[:]) != c.want {
			t.Errorf("Sum of %s: %x, not %s", c.name, got, c.want)
		}
	}
}

func TestNothingAtAll(t *testing.T) {
	want := reference(nil)
	if got := Sum(); got != want {
		t.Errorf("Sum of no parts: %x, not %x", got, want)
	}
	if got := Sum([][]byte{}...); got != want {
		t.Errorf("Sum of an empty list: %x, not %x", got, want)
	}
	if got := Sum(nil); got != want {
		t.Errorf("Sum of a part of no bytes: %x, not %x", got, want)
	}
	if got := Sum(nil, []byte{}, nil); got != want {
		t.Errorf("Sum of empty parts: %x, not %x", got, want)
	}
}

func TestEveryLengthAboutTheEndsOfBlocks(t *testing.T) {
	for n := range 5*blockBytes + 2 {
		if got, want := Sum(row(n)), reference(row(n)); got != want {
			t.Errorf("Sum of %d bytes: %x, not %x", n, got, want)
		}
		// Rows of one byte over and over, so that an end which is mistaken for bytes shows.
		for _, c := range []byte{0, 0x80, 0xff} {
			same := bytes.Repeat([]byte{c}, n)
			if got, want := Sum(same), reference(same); got != want {
				t.Errorf("Sum of %d times %#x: %x, not %x", n, c, got, want)
			}
		}
	}
}

func TestLongRows(t *testing.T) {
	// From 2^13 and 2^21 bytes on the number of bits needs a third and a fourth byte.
	for _, n := range []int{1<<13 - 1, 1 << 13, 1<<13 + 1, api.MaxBytes, api.MaxBytes + 1, 1<<21 - 1, 1 << 21, 1<<21 + 129} {
		if got, want := Sum(row(n)), reference(row(n)); got != want {
			t.Errorf("Sum of %d bytes: %x, not %x", n, got, want)
		}
	}
}

func TestTheNumberOfBitsGoesPast32Bits(t *testing.T) {
	if testing.Short() {
		t.Skip("half a gigabyte of bytes")
	}
	piece := make([]byte, 1<<20)
	want := sha512.New()
	var parts [][]byte
	for range 512 {
		parts = append(parts, piece)
		want.Write(piece)
	}
	parts = append(parts, []byte{1})
	want.Write([]byte{1})
	if got := Sum(parts...); !bytes.Equal(got[:], want.Sum(nil)) {
		t.Errorf("of 2^29 bytes and one more: %x, not %x", got, want.Sum(nil))
	}
}

// No memory holds a message of 2^61 bytes: its end is asked for alone.
func TestTheNumberOfBitsGoesPast64Bits(t *testing.T) {
	for _, c := range []struct {
		n    int
		want string
	}{
		{0, "00000000000000000000000000000000"},
		{1, "00000000000000000000000000000008"},
		{1<<61 - 1, "0000000000000000fffffffffffffff8"},
		{1 << 61, "00000000000000010000000000000000"},
		{1<<62 + 3, "00000000000000020000000000000018"},
	} {
		tail := end(c.n)
		if got := hex.EncodeToString(tail[len(tail)-lengthBytes:]); got != c.want {
			t.Errorf("the number of bits of %d bytes: %s, not %s", c.n, got, c.want)
		}
	}
}

func TestPartsAreOneBehindTheOther(t *testing.T) {
	all := row(3*blockBytes + 5)
	want := reference(all)
	for i := 0; i <= len(all); i++ {
		if got := Sum(all[:i], all[i:]); got != want {
			t.Errorf("Sum of parts that end at %d: %x, not %x", i, got, want)
		}
		for _, j := range []int{i, i + 1, i + blockBytes - 1, i + blockBytes, i + blockBytes + 1, len(all)} {
			j = min(j, len(all))
			if got := Sum(nil, all[:i], nil, all[i:j], []byte{}, all[j:], nil); got != want {
				t.Errorf("Sum of parts that end at %d and %d: %x, not %x", i, j, got, want)
			}
		}
	}
	if Sum([]byte("b"), []byte("a")) == Sum([]byte("ab")) {
		t.Error("the order of parts is lost")
	}
}

func TestPartsOfOneLength(t *testing.T) {
	for _, n := range []int{111, 112, 127, 128, 129, 239, 240, 4*blockBytes + 3} {
		all := row(n)
		for size := 1; size <= 2*blockBytes+1; size++ {
			var parts [][]byte
			for i := 0; i < len(all); i += size {
				parts = append(parts, all[i:min(i+size, len(all))], nil)
			}
			if got, want := Sum(parts...), reference(all); got != want {
				t.Errorf("Sum of %d bytes in parts of %d: %x, not %x", n, size, got, want)
			}
		}
	}
}

func TestPartsOfManyLengths(t *testing.T) {
	all := row(5000)
	seed := uint32(1)
	for range 20 {
		var parts [][]byte
		for i := 0; i < len(all); {
			seed = seed*1664525 + 1013904223
			n := min(int(seed>>16)%400, len(all)-i)
			parts = append(parts, all[i:i+n])
			i += n
			if got, want := Sum(parts...), reference(all[:i]); got != want {
				t.Fatalf("Sum of the first %d bytes in %d parts: %x, not %x", i, len(parts), got, want)
			}
		}
	}
}

func TestBytesAreNeitherChangedNorKept(t *testing.T) {
	for _, n := range []int{0, 1, 111, 112, 127, 128, 129, 239, 240, 400} {
		given := append(row(n), 0xaa, 0xbb)[:n] // room behind, which must stay as it is too
		was := bytes.Clone(given[:n+2])
		first := Sum(given, given)
		if !bytes.Equal(given[:n+2], was) {
			t.Errorf("%d bytes that were handed in are changed", n)
		}
		twice := append(row(n), row(n)...)
		if first != reference(twice) {
			t.Errorf("Sum of %d bytes twice: %x, not %x", n, first, reference(twice))
		}
		clear(given)
		if got, want := Sum(given), reference(make([]byte, n)); got != want {
			t.Errorf("%d bytes that were handed in are kept: %x, not %x", n, got, want)
		}
	}
}

func TestAListOfPartsStaysAsItIs(t *testing.T) {
	list := [][]byte{[]byte("a"), []byte("bc"), []byte("room behind")}
	for range 2 {
		if got, want := Sum(list[:2]...), reference([]byte("abc")); got != want {
			t.Errorf("Sum of a list: %x, not %x", got, want)
		}
	}
	for i, want := range []string{"a", "bc", "room behind"} {
		if string(list[i]) != want {
			t.Errorf("part %d of the list is %q, not %q", i, list[i], want)
		}
	}
}

func TestADigestIsTheCallersOwn(t *testing.T) {
	got := Sum([]byte("abc"))
	clear(got[:])
	if again := Sum([]byte("abc")); again != reference([]byte("abc")) {
		t.Errorf("a digest that was answered is shared: %x", again)
	}
}

func TestBlocksAtTheEdges(t *testing.T) {
	for _, c := range []struct{ n, want int }{
		{0, 1},
		{1, 1},
		{111, 1},
		{112, 2},
		{127, 2},
		{128, 2},
		{129, 2},
		{239, 2},
		{240, 3},
		{api.MaxBytes - 17, 512},
		{api.MaxBytes - 16, 513},
		{api.MaxBytes, 513},
	} {
		if got, err := Blocks(c.n); err != nil || got != c.want {
			t.Errorf("Blocks(%d): %d, %v, not %d", c.n, got, err, c.want)
		}
	}
}

func TestBlocksOfEveryLength(t *testing.T) {
	want, room := 1, 111 // the first block has room for 111 bytes beside the end, each further one for 128 more
	for n := 0; n <= api.MaxBytes; n++ {
		if n > room {
			want++
			room += 128
		}
		if got, err := Blocks(n); err != nil || got != want {
			t.Fatalf("Blocks(%d): %d, %v, not %d", n, got, err, want)
		}
	}
}

func TestBlocksOutOfRange(t *testing.T) {
	for _, n := range []int{math.MinInt, math.MinInt + 1, -128, -17, -1, api.MaxBytes + 1, api.MaxBytes + 128, 1 << 32, math.MaxInt - 1, math.MaxInt} {
		if got, err := Blocks(n); !errors.Is(err, api.ErrRange) || got != 0 {
			t.Errorf("Blocks(%d): %d, %v", n, got, err)
		}
	}
}

func TestBlocksAreThoseThatSumTakesIn(t *testing.T) {
	for _, n := range []int{0, 1, 111, 112, 127, 128, 129, 239, 240, 1000, api.MaxBytes} {
		taken := 0
		for range blocks(ended([][]byte{row(n)})) {
			taken++
		}
		if told, err := Blocks(n); err != nil || told != taken {
			t.Errorf("Blocks(%d): %d, %v, but %d are taken in", n, told, err, taken)
		}
	}
}

func TestBlocksEndWhereTheyAreLeft(t *testing.T) {
	all := row(3 * blockBytes)
	taken := 0
	for b := range blocks([][]byte{all[:5], all[5:]}) {
		if !bytes.Equal(b[:], all[:blockBytes]) {
			t.Errorf("the first block is % x", b)
		}
		taken++
		break
	}
	if taken != 1 {
		t.Errorf("%d blocks were taken", taken)
	}
}

func BenchmarkSum(b *testing.B) {
	text := row(1024)
	b.SetBytes(1024)
	for b.Loop() {
		Sum(text)
	}
}

func BenchmarkSumShort(b *testing.B) {
	text := row(40)
	for b.Loop() {
		Sum(text)
	}
}
