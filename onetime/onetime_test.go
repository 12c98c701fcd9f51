package onetime

import (
	"bytes"
	"encoding/hex"
	"math/big"
	"math/rand/v2"
	"slices"
	"testing"

	"fellowship/api"
)

// line is n bytes that differ along the way, by a rule that no block's length divides.
func line(n int) []byte {
	b := make([]byte, n)
	for i := range b {
		b[i] = byte(i*i + 7*i + i>>8)
	}
	return b
}

// ones is n bytes with all their bits set.
func ones(n int) []byte { return bytes.Repeat([]byte{0xff}, n) }

// unhex is the bytes that a text writes out.
func unhex(t *testing.T, s string) []byte {
	t.Helper()
	b, err := hex.DecodeString(s)
	if err != nil {
		t.Fatal(err)
	}
	return b
}

// keyOf is the key with r's bytes and s's.
func keyOf(r, s []byte) api.Key {
	var k api.Key
	copy(k[:16], r)
	copy(k[16:], s)
	return k
}

// power is 2^n.
func power(n uint) *big.Int { return new(big.Int).Lsh(big.NewInt(1), n) }

// fromLittle is the number of bytes, the low one first.
func fromLittle(b []byte) *big.Int {
	turned := bytes.Clone(b)
	slices.Reverse(turned)
	return new(big.Int).SetBytes(turned)
}

// toLittle is a number's low 16 bytes, the low one first.
func toLittle(n *big.Int) [16]byte {
	var out [16]byte
	new(big.Int).Mod(n, power(128)).FillBytes(out[:])
	slices.Reverse(out[:])
	return out
}

// reference is the code by the standard's own formula, in numbers of any length.
func reference(key api.Key, text []byte) [16]byte {
	prime := new(big.Int).Sub(power(130), big.NewInt(5))
	mask, _ := new(big.Int).SetString("0ffffffc0ffffffc0ffffffc0fffffff", 16)
	r := new(big.Int).And(fromLittle(key[:16]), mask)
	total := new(big.Int)
	for block := range slices.Chunk(text, 16) {
		total.Add(total, fromLittle(append(bytes.Clone(block), 1)))
		total.Mul(total, r)
		total.Mod(total, prime)
	}
	return toLittle(total.Add(total, fromLittle(key[16:])))
}

// check holds the code of one text against the reference.
func check(t *testing.T, key api.Key, text []byte) {
	t.Helper()
	want := reference(key, text)
	if got := Sum(key, text); got != want {
		t.Errorf("Sum(%x) of %d bytes: %x, not %x", key, len(text), got, want)
	}
	if !Right(key, want[:], text) {
		t.Errorf("Right(%x) of %d bytes: the code isn't right", key, len(text))
	}
}

// keys are some of all keys, with the least and the greatest of both halves.
func keys() []api.Key {
	return []api.Key{
		{},
		api.Key(line(32)),
		api.Key(ones(32)),
		keyOf(ones(16), nil),
		keyOf(nil, ones(16)),
		keyOf([]byte{1}, nil),
		keyOf([]byte{1}, ones(16)),
		keyOf([]byte{2}, line(16)),
		keyOf([]byte{15: 0x0f}, []byte{15: 0x80}),
		keyOf([]byte{4: 0xfc}, []byte{8: 1}),
	}
}

func TestCodesThatAreWrittenOut(t *testing.T) {
	const (
		note  = "Any submission to the IETF intended by the Contributor for publication as all or part of an IETF Internet-Draft or RFC and any statement made within the context of an IETF activity is considered an \"IETF Contribution\". Such statements include oral statements in IETF sessions, as well as written and electronic communications made at any time or place, which are addressed to"
		verse = "'Twas brillig, and the slithy toves\nDid gyre and gimble in the wabe:\nAll mimsy were the borogoves,\nAnd the mome raths outgrabe."
	)
	some := unhex(t, "36e5f6b5c5e06070f0efca96227a863e")
	far := keyOf([]byte{0: 1, 8: 4}, nil)
	for _, c := range []struct {
		name string
		key  api.Key
		text []byte
		want string
	}{
		{"the standard's example", api.Key(unhex(t, "85d6be7857556d337f4452fe42d506a80103808afb0db2fd4abff6af4149f51b")), []byte("Cryptographic Forum Research Group"), "a8061dc1305136c6c22b8baf0c0127a9"},
		{"all noughts", api.Key{}, make([]byte, 64), "00000000000000000000000000000000"},
		{"no r", keyOf(nil, some), []byte(note), "36e5f6b5c5e06070f0efca96227a863e"},
		{"no s", keyOf(some, nil), []byte(note), "f3477e7cd95417af89a6b8794c310cf0"},
		{"a verse", api.Key(unhex(t, "1c9240a5eb55d38af333888604f6b5f0473917c1402b80099dca5cbc207075c0")), []byte(verse), "4541669a7eaaee61e708dc7cbcc5eb62"},
		{"a total beyond 2^130", keyOf([]byte{2}, nil), ones(16), "03000000000000000000000000000000"},
		{"a sum with s beyond 2^128", keyOf([]byte{2}, ones(16)), []byte{0: 2, 15: 0}, "03000000000000000000000000000000"},
		{"carries through all limbs", keyOf([]byte{1}, nil), slices.Concat(ones(16), []byte{0xf0}, ones(15), []byte{0: 0x11, 15: 0}), "05000000000000000000000000000000"},
		{"a total of just the prime", keyOf([]byte{1}, nil), slices.Concat(ones(16), []byte{0xfb}, bytes.Repeat([]byte{0xfe}, 15), bytes.Repeat([]byte{1}, 16)), "00000000000000000000000000000000"},
		{"a total just below the prime", keyOf([]byte{2}, nil), append([]byte{0xfd}, ones(15)...), "faffffffffffffffffffffffffffffff"},
		{"limbs far apart", far, unhex(t, "e33594d7505e43b900000000000000003394d7505e4379cd01000000000000000000000000000000000000000000000001000000000000000000000000000000"), "14000000000000005500000000000000"},
		{"limbs far apart, a block less", far, unhex(t, "e33594d7505e43b900000000000000003394d7505e4379cd010000000000000000000000000000000000000000000000"), "13000000000000000000000000000000"},
		// The codes from here on are another program's.
		{"one nought", api.Key(line(32)), []byte{0}, "7a98ca002b78ba00eb98ea40dbf85ac0"},
		{"a long line", api.Key(line(32)), line(api.MaxBytes), "07011bdb24fe4171b64a92e91c585b8d"},
		{"a line of more than MaxBytes", api.Key(line(32)), line(1<<20 + 3), "c5cd4380699244d4c133d57771a71955"},
		{"many ones", api.Key(ones(32)), ones(api.MaxBytes), "f2ad07edc89ff60973326908105868fa"},
		{"one byte more of ones", api.Key(ones(32)), ones(api.MaxBytes + 1), "99b9930a230aa347151a3c7f323e800f"},
		{"more than MaxBytes of ones", api.Key(ones(32)), ones(1<<20 + 3), "9cd2cf275502a2ac40c1f6a4be23a1a8"},
	} {
		if got := Sum(c.key, c.text); hex.EncodeToString(got[:]) != c.want {
			t.Errorf("Sum of %s: %x, not %s", c.name, got, c.want)
		}
		if !Right(c.key, unhex(t, c.want), c.text) {
			t.Errorf("the code of %s isn't right", c.name)
		}
	}
}

func TestOfNoBytesTheCodeIsTheKeysEnd(t *testing.T) {
	for _, key := range keys() {
		want := [16]byte(key[16:])
		for name, parts := range map[string][][]byte{
			"no parts":      nil,
			"an empty list": {},
			"a nil part":    {nil},
			"empty parts":   {nil, {}, nil, line(40)[:0]},
		} {
			if got := Sum(key, parts...); got != want {
				t.Errorf("Sum(%x) of %s: %x, not %x", key, name, got, want)
			}
			if !Right(key, want[:], parts...) {
				t.Errorf("Right(%x) of %s: the key's end isn't right", key, name)
			}
		}
	}
}

func TestEveryLengthAboutTheBlocks(t *testing.T) {
	for _, key := range keys() {
		for n := range 8*blockBytes + 2 {
			check(t, key, line(n))
			check(t, key, ones(n))
			check(t, key, make([]byte, n))
		}
	}
}

func TestLongTexts(t *testing.T) {
	for _, n := range []int{1000, 4096, api.MaxText - 1, api.MaxText, api.MaxText + 1, api.MaxBytes - 1, api.MaxBytes, api.MaxBytes + 1, 1 << 18} {
		for _, key := range []api.Key{api.Key(line(32)), api.Key(ones(32)), keyOf([]byte{1}, ones(16))} {
			check(t, key, line(n))
			check(t, key, ones(n))
		}
	}
}

func TestNoughtsAtTheEndTell(t *testing.T) {
	// Whether a block is full or not, its noughts are bytes like others.
	key := api.Key(line(32))
	seen := map[[16]byte]int{}
	for n := range 4*blockBytes + 1 {
		code := Sum(key, make([]byte, n))
		if m, ok := seen[code]; ok {
			t.Errorf("%d and %d noughts have one code", m, n)
		}
		seen[code] = n
	}
	for n := range blockBytes {
		text := line(n)
		if Sum(key, text) == Sum(key, text, []byte{1}) || Sum(key, text) == Sum(key, text, []byte{1, 0}) {
			t.Errorf("the 1 behind %d bytes is one of them", n)
		}
	}
}

// threeBlocks is a text whose total by r = 1 is that number, which is at least 3 times 2^128.
func threeBlocks(t *testing.T, total *big.Int) []byte {
	t.Helper()
	left := new(big.Int).Sub(total, new(big.Int).Mul(big.NewInt(3), power(128)))
	most := new(big.Int).Sub(power(128), big.NewInt(1))
	var out []byte
	for range 3 {
		piece := left
		if left.Cmp(most) > 0 {
			piece = most
		}
		block := toLittle(piece)
		out = append(out, block[:]...)
		left = new(big.Int).Sub(left, piece)
	}
	if left.Sign() != 0 {
		t.Fatal("three blocks don't reach the total")
	}
	return out
}

func TestTotalsAboutThePrime(t *testing.T) {
	edges := []*big.Int{power(130), new(big.Int).Add(power(130), power(128)), new(big.Int).Sub(power(130), power(127))}
	for _, edge := range edges {
		for off := int64(-20); off <= 20; off++ {
			total := new(big.Int).Add(edge, big.NewInt(off))
			text := threeBlocks(t, total)
			for _, s := range [][]byte{nil, {1}, {5}, ones(16), line(16), {15: 0x80}} {
				check(t, keyOf([]byte{1}, s), text)
			}
		}
	}
}

func TestTotalsAboutTheLimbs(t *testing.T) {
	// A total about each power of 2 that the three blocks leave room for, with the
	// ones below it that a carry runs through.
	base := new(big.Int).Mul(big.NewInt(3), power(128))
	for bit := range uint(129) {
		for off := int64(-6); off <= 6; off++ {
			above := new(big.Int).Add(power(bit), big.NewInt(off))
			if above.Sign() < 0 {
				continue
			}
			text := threeBlocks(t, above.Add(above, base))
			check(t, keyOf([]byte{1}, nil), text)
			check(t, keyOf([]byte{1}, ones(16)), text)
			check(t, api.Key(ones(32)), text)
		}
	}
}

func TestTheSumWithTheKeysEndWrapsRound(t *testing.T) {
	// By r = 1 one block's total is its own number and 2^128, which is beyond the code.
	for _, block := range [][]byte{make([]byte, 16), {0: 1, 15: 0}, line(16), ones(16), {15: 0x80}, {7: 0x80, 15: 0}} {
		for _, s := range [][]byte{make([]byte, 16), {0: 1, 15: 0}, line(16), ones(16), {15: 0x80}, {7: 0x80, 15: 0}} {
			want := toLittle(new(big.Int).Add(fromLittle(block), fromLittle(s)))
			if got := Sum(keyOf([]byte{1}, s), block); got != want {
				t.Errorf("the sum of %x and %x: %x, not %x", block, s, got, want)
			}
		}
	}
}

func TestEveryBitOfTheKey(t *testing.T) {
	text := line(50)
	for _, key := range []api.Key{{}, api.Key(line(32)), api.Key(ones(32))} {
		was := Sum(key, text)
		for i := range 256 {
			other := key
			other[i/8] ^= 1 << (i % 8)
			check(t, other, text)
			at, bit := i/8, i%8
			cleared := at < 16 && (at%4 == 3 && bit >= 4 || at%4 == 0 && at > 0 && bit < 2)
			if same := Sum(other, text) == was; same != cleared {
				t.Errorf("bit %d of byte %d of the key %x: the code stays: %v", bit, at, key, same)
			}
		}
	}
}

func TestEveryBitOfTheText(t *testing.T) {
	key := api.Key(line(32))
	for _, n := range []int{1, 15, 16, 17, 33} {
		text := line(n)
		was := Sum(key, text)
		for i := range 8 * n {
			other := bytes.Clone(text)
			other[i/8] ^= 1 << (i % 8)
			check(t, key, other)
			if Sum(key, other) == was || Right(key, was[:], other) {
				t.Errorf("bit %d of %d bytes is lost", i, n)
			}
		}
	}
}

func TestManyKeysAndTexts(t *testing.T) {
	draw := rand.New(rand.NewPCG(7, 8439))
	// A byte is often at its least or greatest, where carries run far.
	fill := func(b []byte) {
		kind := draw.IntN(4)
		for i := range b {
			switch pick := draw.IntN(4); {
			case kind == 0 || pick == 0:
				b[i] = byte(draw.Uint32())
			case kind == 1 || pick == 1:
				b[i] = 0xff
			}
		}
	}
	for range 20000 {
		var key api.Key
		fill(key[:16])
		fill(key[16:])
		text := make([]byte, draw.IntN(100))
		fill(text)
		check(t, key, text)
	}
}

func TestPartsAreOneBehindTheOther(t *testing.T) {
	key := api.Key(line(32))
	all := line(5*blockBytes + 3)
	want := reference(key, all)
	for i := 0; i <= len(all); i++ {
		for j := i; j <= len(all); j++ {
			if got := Sum(key, all[:i], nil, all[i:j], []byte{}, all[j:]); got != want {
				t.Errorf("Sum of parts that end at %d and %d: %x, not %x", i, j, got, want)
			}
			if !Right(key, want[:], all[:i], nil, all[i:j], []byte{}, all[j:]) {
				t.Errorf("the code of parts that end at %d and %d isn't right", i, j)
			}
		}
	}
	for n := 1; n <= len(all); n++ {
		if got := Sum(key, slices.Collect(slices.Chunk(all, n))...); got != want {
			t.Errorf("Sum of parts of %d bytes: %x, not %x", n, got, want)
		}
	}
	if Sum(key, []byte("b"), []byte("a")) == Sum(key, []byte("ab")) {
		t.Error("the order of parts is lost")
	}
}

func TestPartsThatEndAnywhere(t *testing.T) {
	draw := rand.New(rand.NewPCG(7, 1))
	key := api.Key(line(32))
	for range 500 {
		all := line(draw.IntN(400))
		want := reference(key, all)
		var parts [][]byte
		for left := all; len(left) > 0; {
			n := draw.IntN(min(len(left), 40) + 1)
			parts = append(parts, left[:n])
			left = left[n:]
		}
		if got := Sum(key, parts...); got != want || !Right(key, want[:], parts...) {
			t.Errorf("Sum of %d bytes in %d parts: %x, not %x", len(all), len(parts), got, want)
		}
	}
}

func TestOneBitOfATagMakesItWrong(t *testing.T) {
	for _, key := range keys() {
		text := line(50)
		code := reference(key, text)
		for i := range 8 * len(code) {
			tag := code
			tag[i/8] ^= 1 << (i % 8)
			if Right(key, tag[:], text) {
				t.Errorf("a tag that is wrong at bit %d is right by the key %x", i, key)
			}
		}
	}
}

func TestATagHasAllThe16Bytes(t *testing.T) {
	// By the key of noughts the code is all noughts: no length may be made up by them.
	for _, key := range []api.Key{api.Key(line(32)), {}} {
		text := line(50)
		code := reference(key, text)
		if !Right(key, code[:], text) {
			t.Error("the whole code isn't right")
		}
		for n := range len(code) {
			if Right(key, code[:n], text) || Right(key, code[len(code)-n:], text) {
				t.Errorf("%d bytes of the code are right", n)
			}
		}
		if Right(key, nil, text) || Right(key, []byte{}, text) || Right(key, nil) {
			t.Error("no tag is right")
		}
		for _, more := range [][]byte{{0}, {0xff}, code[:], make([]byte, 16)} {
			if Right(key, slices.Concat(code[:], more), text) || Right(key, slices.Concat(more, code[:]), text) {
				t.Errorf("the code beside %d more bytes is right", len(more))
			}
		}
	}
}

func TestATagOfAnotherKeyOrTextIsWrong(t *testing.T) {
	key, text := api.Key(line(32)), line(50)
	code := reference(key, text)
	for _, other := range keys() {
		if other != key && Right(other, code[:], text) {
			t.Errorf("the tag is right by the key %x", other)
		}
	}
	for _, parts := range [][][]byte{nil, {text[:49]}, {text, {0}}, {text, text}, {text[25:], text[:25]}, {text[16:32], text[:16], text[32:]}} {
		if Right(key, code[:], parts...) {
			t.Errorf("the tag is right for %d other parts", len(parts))
		}
	}
	if Right(key, key[16:], text) || Right(key, make([]byte, 16), text) {
		t.Error("the key's end or a tag of noughts is right")
	}
}

func TestBytesAreNeitherChangedNorKept(t *testing.T) {
	for _, n := range []int{0, 1, 15, 16, 17, 70} {
		text := append(line(n), 0xcc, 0xdd)[:n] // room behind, which must stay as it is too
		textWas := bytes.Clone(text[:n+2])
		room := []byte("room")
		list := append(make([][]byte, 0, 4), text, text, room)[:2]
		key := api.Key(line(32))

		code := Sum(key, list...)
		tag := append(bytes.Clone(code[:]), 0xee)[:16]
		if !Right(key, tag, list...) {
			t.Errorf("the code of twice %d bytes isn't right", n)
		}
		if !bytes.Equal(text[:n+2], textWas) || !bytes.Equal(tag[:17], append(bytes.Clone(code[:]), 0xee)) {
			t.Errorf("bytes that were handed in are changed: twice %d", n)
		}
		if len(list[0]) != n || len(list[1]) != n || string(list[:3][2]) != "room" {
			t.Errorf("a list that was handed in is changed: twice %d bytes", n)
		}
		clear(text)
		clear(key[:])
		if code != reference(api.Key(line(32)), slices.Concat(line(n), line(n))) {
			t.Errorf("a later change shows in a code of twice %d bytes", n)
		}
		// A call keeps nothing of those ahead of it.
		check(t, api.Key(line(32)), line(n))
	}
}

func TestOneRowMayBeKeyTagAndPart(t *testing.T) {
	key := api.Key(line(32))
	if got, want := Sum(key, key[:], key[:]), reference(key, slices.Concat(key[:], key[:])); got != want {
		t.Errorf("Sum of the key itself: %x, not %x", got, want)
	}
	code := Sum(key, line(16))
	if Right(key, code[:], code[:]) {
		t.Error("a code is its own tag")
	}
}

func BenchmarkSumMost(b *testing.B) {
	key, text := api.Key(line(32)), line(api.MaxBytes)
	b.SetBytes(api.MaxBytes)
	for b.Loop() {
		Sum(key, text)
	}
}
