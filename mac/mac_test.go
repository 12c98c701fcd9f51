package mac

import (
	"bytes"
	"crypto/hmac"
	"crypto/sha256"
	"encoding/hex"
	"testing"

	"fellowship/api"
)

// row is n bytes that differ along the way, by a rule that no block's length divides.
func row(n int) []byte {
	b := make([]byte, n)
	for i := range b {
		b[i] = byte(i*i + 7*i + i>>8)
	}
	return b
}

// reference is the code as the library of the language has it.
func reference(key, text []byte) api.Hash {
	h := hmac.New(sha256.New, key)
	h.Write(text)
	return api.Hash(h.Sum(nil))
}

// keyLengths are those about which the chapter's words and the blocks have edges.
func keyLengths() []int {
	return []int{0, 1, 31, 32, 33, 55, 56, 63, 64, 65, 66, 127, 128, 129, 200, 1000, api.MaxBytes, api.MaxBytes + 1}
}

func TestCodesThatAreWrittenOut(t *testing.T) {
	for _, c := range []struct {
		name      string
		key, text []byte
		want      string
	}{
		{"the chapter's example", []byte("Jefe"), []byte("what do ya want for nothing?"), "5bdcc146bf60754e6a042426089575c75a003f089d2739839dec58b964ec3843"},
		{"no key and no text", nil, nil, "b613679a0814d9ec772f95d778c35fc5ff1697c493715653c6c712144292c5ad"},
		{"a key of 20 bytes", bytes.Repeat([]byte{0x0b}, 20), []byte("Hi There"), "b0344c61d8db38535ca8afceaf0bf12b881dc200c9833da726e9376c2e32cff7"},
		{"50 bytes of 0xdd", bytes.Repeat([]byte{0xaa}, 20), bytes.Repeat([]byte{0xdd}, 50), "773ea91e36800e46854db8ebd09181a72959098b3ef8c122d9635514ced565fe"},
		{"a key of 131 bytes", bytes.Repeat([]byte{0xaa}, 131), []byte("Test Using Larger Than Block-Size Key - Hash Key First"), "60e431591ee0b67f0d8a26aacbf5b77f8e0bc6213728c5140546040f0ee37f54"},
		{"a key of 131 bytes and a long text", bytes.Repeat([]byte{0xaa}, 131), []byte("This is a test using a larger than block-size key and a larger than block-size data. The key needs to be hashed before being used by the HMAC algorithm."), "9b09ffa71b942fcb27635fbcd5b0e944bfdc63644f0713938a7f51535c3a35e2"},
	} {
		got := Sum(c.key, c.text)
		if hex.EncodeToString(got[:]) != c.want {
			t.Errorf("Sum of %s: %x, not %s", c.name, got, c.want)
		}
		want, err := hex.DecodeString(c.want)
		if err != nil {
			t.Fatal(err)
		}
		if !Right(c.key, want, c.text) {
			t.Errorf("the code of %s isn't right", c.name)
		}
	}
}

func TestEveryKeyLengthAboutTheBlock(t *testing.T) {
	text := row(77)
	for n := range 3*blockBytes + 2 {
		if got, want := Sum(row(n), text), reference(row(n), text); got != want {
			t.Errorf("Sum by a key of %d bytes: %x, not %x", n, got, want)
		}
		for _, c := range []byte{0, innerPad, outerPad, innerPad ^ outerPad, 0xff} {
			same := bytes.Repeat([]byte{c}, n)
			if got, want := Sum(same, text), reference(same, text); got != want {
				t.Errorf("Sum by a key of %d times %#x: %x, not %x", n, c, got, want)
			}
		}
	}
}

func TestLongKeys(t *testing.T) {
	for _, n := range keyLengths() {
		for _, m := range []int{0, 1, 64, 100} {
			if got, want := Sum(row(n), row(m)), reference(row(n), row(m)); got != want {
				t.Errorf("Sum of %d bytes by a key of %d: %x, not %x", m, n, got, want)
			}
		}
	}
}

func TestAKeyOfMoreThanABlockIsItsDigest(t *testing.T) {
	text := row(40)
	for _, n := range []int{blockBytes + 1, blockBytes + 2, 2 * blockBytes, 1000} {
		digest := sha256.Sum256(row(n))
		if Sum(row(n), text) != Sum(digest[:], text) {
			t.Errorf("a key of %d bytes isn't its digest", n)
		}
	}
	for _, n := range []int{0, 32, blockBytes - 1, blockBytes} {
		digest := sha256.Sum256(row(n))
		if Sum(row(n), text) == Sum(digest[:], text) {
			t.Errorf("a key of %d bytes is its digest", n)
		}
	}
}

func TestNoughtsBehindAKeyFillItsBlock(t *testing.T) {
	text := row(40)
	for _, n := range []int{0, 1, 32, blockBytes - 1} {
		key := row(n)
		longer := append(bytes.Clone(key), make([]byte, blockBytes-n)...)
		if Sum(key, text) != Sum(longer, text) {
			t.Errorf("a key of %d bytes isn't filled with noughts", n)
		}
		if Sum(key, text) == Sum(append(longer, 0), text) {
			t.Errorf("a key of %d bytes is filled beyond its block", n)
		}
	}
}

func TestEveryTextLengthAboutTheEndsOfBlocks(t *testing.T) {
	for _, key := range [][]byte{nil, row(32), row(blockBytes), row(blockBytes + 1)} {
		for n := range 4*blockBytes + 2 {
			if got, want := Sum(key, row(n)), reference(key, row(n)); got != want {
				t.Errorf("Sum of %d bytes by a key of %d: %x, not %x", n, len(key), got, want)
			}
		}
		for _, n := range []int{1 << 13, api.MaxBytes, api.MaxBytes + 1, 1<<20 + 3} {
			if got, want := Sum(key, row(n)), reference(key, row(n)); got != want {
				t.Errorf("Sum of %d bytes by a key of %d: %x, not %x", n, len(key), got, want)
			}
		}
	}
}

func TestNothingAtAll(t *testing.T) {
	for _, n := range keyLengths() {
		key := row(n)
		want := reference(key, nil)
		for name, got := range map[string]api.Hash{
			"no parts":      Sum(key),
			"an empty list": Sum(key, [][]byte{}...),
			"a nil part":    Sum(key, nil),
			"empty parts":   Sum(key, nil, []byte{}, nil),
		} {
			if got != want {
				t.Errorf("Sum of %s by a key of %d bytes: %x, not %x", name, n, got, want)
			}
		}
		if !Right(key, want[:]) || !Right(key, want[:], nil, []byte{}) {
			t.Errorf("the code of nothing by a key of %d bytes isn't right", n)
		}
	}
	if Sum(nil) != Sum([]byte{}) {
		t.Error("a nil key and an empty one have two codes")
	}
}

func TestPartsAreOneBehindTheOther(t *testing.T) {
	key := row(20)
	all := row(3*blockBytes + 5)
	want := reference(key, all)
	for i := 0; i <= len(all); i++ {
		for _, j := range []int{i, i + 1, i + blockBytes - 1, i + blockBytes, len(all)} {
			j = min(j, len(all))
			if got := Sum(key, all[:i], nil, all[i:j], []byte{}, all[j:]); got != want {
				t.Errorf("Sum of parts that end at %d and %d: %x, not %x", i, j, got, want)
			}
			if !Right(key, want[:], all[:i], nil, all[i:j], []byte{}, all[j:]) {
				t.Errorf("the code of parts that end at %d and %d isn't right", i, j)
			}
		}
	}
	bytewise := make([][]byte, len(all))
	for i := range all {
		bytewise[i] = all[i : i+1]
	}
	if got := Sum(key, bytewise...); got != want {
		t.Errorf("Sum of parts of one byte: %x, not %x", got, want)
	}
	if Sum(key, []byte("b"), []byte("a")) == Sum(key, []byte("ab")) {
		t.Error("the order of parts is lost")
	}
}

func TestAKeyIsNoPart(t *testing.T) {
	if Sum([]byte("ab"), []byte("c")) == Sum([]byte("a"), []byte("bc")) {
		t.Error("a key and a part run into one another")
	}
	if Sum([]byte("a"), []byte("b")) == Sum([]byte("b"), []byte("a")) {
		t.Error("a key and a part can change places")
	}
}

func TestOneBitOfATagMakesItWrong(t *testing.T) {
	key, text := row(32), row(50)
	code := reference(key, text)
	for i := range code {
		for bit := range 8 {
			tag := code
			tag[i] ^= 1 << bit
			if Right(key, tag[:], text) {
				t.Errorf("a tag that is wrong at byte %d, bit %d is right", i, bit)
			}
		}
	}
}

func TestATagHasAllThe32Bytes(t *testing.T) {
	key, text := row(32), row(50)
	code := reference(key, text)
	if !Right(key, code[:], text) {
		t.Error("the whole code isn't right")
	}
	for n := range len(code) {
		if Right(key, code[:n], text) || Right(key, code[len(code)-n:], text) {
			t.Errorf("%d bytes of the code are right", n)
		}
	}
	if Right(key, nil, text) {
		t.Error("no tag is right")
	}
	for _, more := range [][]byte{{0}, {0xff}, code[:]} {
		if Right(key, append(bytes.Clone(code[:]), more...), text) {
			t.Errorf("the code with %d bytes behind it is right", len(more))
		}
		if Right(key, append(bytes.Clone(more), code[:]...), text) {
			t.Errorf("the code behind %d bytes is right", len(more))
		}
	}
	if Right(key, make([]byte, len(code)), text) {
		t.Error("a tag of noughts is right")
	}
}

func TestATagOfAnotherKeyOrTextIsWrong(t *testing.T) {
	key, text := row(32), row(50)
	code := reference(key, text)
	for i := range key {
		other := bytes.Clone(key)
		other[i] ^= 1
		if Right(other, code[:], text) {
			t.Errorf("the tag is right by a key that differs at byte %d", i)
		}
	}
	for i := range text {
		other := bytes.Clone(text)
		other[i] ^= 1
		if Right(key, code[:], other) {
			t.Errorf("the tag is right for a text that differs at byte %d", i)
		}
	}
	for _, parts := range [][][]byte{nil, {text[:49]}, {text, {0}}, {text, text}, {text[25:], text[:25]}} {
		if Right(key, code[:], parts...) {
			t.Errorf("the tag is right for %d other parts", len(parts))
		}
	}
	for _, other := range [][]byte{nil, key[:31], append(bytes.Clone(key), 1)} {
		if Right(other, code[:], text) {
			t.Errorf("the tag is right by another key of %d bytes", len(other))
		}
	}
}

func TestBytesAreNeitherChangedNorKept(t *testing.T) {
	for _, n := range []int{0, 1, 32, 63, 64, 65, 200} {
		key := append(row(n), 0xaa, 0xbb)[:n] // room behind, which must stay as it is too
		keyWas := bytes.Clone(key[:n+2])
		text := append(row(70), 0xcc, 0xdd)[:70]
		textWas := bytes.Clone(text[:72])
		room := []byte("room")
		list := append(make([][]byte, 0, 4), text, text, room)[:2]

		code := Sum(key, list...)
		tag := bytes.Clone(code[:])
		if !Right(key, tag, list...) {
			t.Errorf("the code by a key of %d bytes isn't right", n)
		}
		if !bytes.Equal(key[:n+2], keyWas) || !bytes.Equal(text[:72], textWas) || !bytes.Equal(tag, code[:]) {
			t.Errorf("bytes that were handed in beside a key of %d are changed", n)
		}
		if &list[0][0] != &text[0] || &list[1][0] != &text[0] || string(list[:3][2]) != "room" {
			t.Errorf("a list that was handed in beside a key of %d bytes is changed", n)
		}
		clear(text)
		clear(key)
		if code != reference(row(n), append(row(70), row(70)...)) {
			t.Errorf("a later change shows in a code by a key of %d bytes", n)
		}
		if got, want := Sum(row(n), row(70)), reference(row(n), row(70)); got != want {
			t.Errorf("a call keeps something of the one ahead of it: %x, not %x", got, want)
		}
	}
}

func TestOneRowMayBeKeyTagAndPart(t *testing.T) {
	for _, n := range []int{32, 64, 65} {
		b := row(n)
		if got, want := Sum(b, b, b), reference(row(n), append(row(n), row(n)...)); got != want {
			t.Errorf("Sum by a key of %d bytes that is its parts too: %x, not %x", n, got, want)
		}
		if Right(b, b, b) {
			t.Errorf("a key of %d bytes is its own tag", n)
		}
	}
}

func BenchmarkSum(b *testing.B) {
	key, text := row(32), row(1024)
	b.SetBytes(1024)
	for b.Loop() {
		Sum(key, text)
	}
}

func BenchmarkSumShort(b *testing.B) {
	key, text := row(32), row(40)
	for b.Loop() {
		Sum(key, text)
	}
}
