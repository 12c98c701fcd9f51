package sign

import (
	"bytes"
	"crypto/ed25519"
	"crypto/sha512"
	"encoding/hex"
	"math/big"
	"math/rand/v2"
	"slices"
	"testing"

	"fellowship/api"
	"fellowship/points"
)

// order is l, how many multiples the base point has.
func order() *big.Int {
	n, _ := new(big.Int).SetString("27742317777372353535851937790883648493", 10)
	return n.Add(n, new(big.Int).Lsh(big.NewInt(1), 252))
}

// prime is p, 2^255 - 19.
func prime() *big.Int {
	n := new(big.Int).Lsh(big.NewInt(1), 255)
	return n.Sub(n, big.NewInt(19))
}

// mod is a number modulo l, from 0 on.
func mod(n *big.Int) *big.Int { return new(big.Int).Mod(n, order()) }

// toKey is a number's 32 bytes, the low one first.
func toKey(n *big.Int) api.Key {
	var key api.Key
	n.FillBytes(key[:])
	slices.Reverse(key[:])
	return key
}

// fromBytes is the number of bytes, the low one first.
func fromBytes(b []byte) *big.Int {
	turned := slices.Clone(b)
	slices.Reverse(turned)
	return new(big.Int).SetBytes(turned)
}

// fits tells whether a number has 32 bytes.
func fits(n *big.Int) bool { return n.Sign() >= 0 && n.BitLen() <= 256 }

// theS is the number of a signature's second half.
func theS(sig api.Sig) *big.Int { return fromBytes(sig[32:]) }

// withS is a signature with another second half.
func withS(sig api.Sig, s *big.Int) api.Sig {
	key := toKey(s)
	copy(sig[32:], key[:])
	return sig
}

// withR is a signature with another first half.
func withR(sig api.Sig, r api.Key) api.Sig {
	copy(sig[:32], r[:])
	return sig
}

// flipped is bytes with another bit i.
func flipped(b []byte, i int) []byte {
	other := slices.Clone(b)
	other[i/8] ^= 1 << (i % 8)
	return other
}

// unhex is the bytes that a text writes out.
func unhex(t *testing.T, s string) []byte {
	t.Helper()
	b, err := hex.DecodeString(s)
	if err != nil {
		t.Fatal("the test's own bytes aren't any", s)
	}
	return b
}

// drawn is so many bytes.
func drawn(draw *rand.Rand, n int) []byte {
	b := make([]byte, n)
	for i := range b {
		b[i] = byte(draw.Uint32())
	}
	return b
}

// drawnKey is 32 of them.
func drawnKey(draw *rand.Rand) api.Key { return api.Key(drawn(draw, 32)) }

// drawnNumber is a number below l.
func drawnNumber(draw *rand.Rand) *big.Int { return mod(fromBytes(drawn(draw, 64))) }

// between is the chapter's h, by the library's digest.
func between(r, public api.Key, text []byte) *big.Int {
	digest := sha512.Sum512(slices.Concat(r[:], public[:], text))
	return mod(fromBytes(digest[:]))
}

// multipleOf is the base point so many times.
func multipleOf(n *big.Int) points.Point { return points.Base().Times(toKey(n)) }

// few is the eight points that 8 times are Zero: the multiples of one, in their order.
func few(t *testing.T) [8]points.Point {
	t.Helper()
	for y := byte(2); ; y++ {
		p, err := points.Read(api.Key{y})
		if err != nil {
			continue
		}
		// A point l times has just what isn't the base point's own.
		one := p.Times(toKey(order()))
		if one.Times(api.Key{4}).Same(points.Zero()) {
			continue
		}
		all := [8]points.Point{points.Zero()}
		for i := 1; i < len(all); i++ {
			all[i] = all[i-1].Add(one)
		}
		if !all[7].Add(one).Same(points.Zero()) {
			t.Fatal("the test's own point of order 8 isn't one")
		}
		return all
	}
}

// check holds all three calls against the library, for a text in one part.
func check(t *testing.T, seed api.Key, text []byte) {
	t.Helper()
	secret := ed25519.NewKeyFromSeed(seed[:])
	want := api.Key(secret.Public().(ed25519.PublicKey))
	if got := Public(seed); got != want {
		t.Errorf("Public of %x: %x, not %x", seed, got, want)
	}
	sig := api.Sig(ed25519.Sign(secret, text))
	if got := Sign(seed, text); got != sig {
		t.Errorf("Sign of %x by %x: %x, not %x", text, seed, got, sig)
	}
	if !Verify(want, sig, text) {
		t.Errorf("the signature of %x by %x isn't verified", text, seed)
	}
}

// refuse asks for what mustn't be verified.
func refuse(t *testing.T, what string, public api.Key, sig api.Sig, parts ...[]byte) {
	t.Helper()
	if Verify(public, sig, parts...) {
		t.Errorf("%s is verified: public %x, signature %x, parts %x", what, public, sig, parts)
	}
}

func TestTheStandardsSignatures(t *testing.T) {
	for _, c := range []struct{ seed, public, text, sig string }{
		{
			"9d61b19deffd5a60ba844af492ec2cc44449c5697b326919703bac031cae7f60",
			"d75a980182b10ab7d54bfed3c964073a0ee172f3daa62325af021a68f707511a",
			"",
			"e5564300c360ac729086e2cc806e828a84877f1eb8e5d974d873e065224901555fb8821590a33bacc61e39701cf9b46bd25bf5f0595bbe24655141438e7a100b",
		},
		{
			"4ccd089b28ff96da9db6c346ec114e0f5b8a319f35aba624da8cf6ed4fb8a6fb",
			"3d4017c3e843895a92b70aa74d1b7ebc9c982ccf2ec4968cc0cd55f12af4660c",
			"72",
			"92a009a9f0d4cab8720e820b5f642540a2b27b5416503f8fb3762223ebdb69da085ac1e43e15996e458f3613d0f11d8c387b2eaeb4302aeeb00d291612bb0c00",
		},
		{
			"c5aa8df43f9f837bedb7442f31dcb7b166d38535076f094b85ce3a2e0b4458f7",
			"fc51cd8e6218a1a38da47ed00230f0580816ed13ba3303ac5deb911548908025",
			"af82",
			"6291d657deec24024827e69c3abe01a30ce548a284743a445e3680d7db5ac3ac18ff9b538d16f290ae67f760984dc6594a7c15e9716ed28dc027beceea1ec40a",
		},
		{
			"833fe62409237b9d62ec77587520911e9a759cec1d19755b7da901b96dca3d42",
			"ec172b93ad5e563bf4932c70e1245034c35467ef2efd4d64ebf819683467e2bf",
			"ddaf35a193617abacc417349ae20413112e6fa4e89a97ea20a9eeee64b55d39a2192992a274fc1a836ba3c23a3feebbd454d4423643ce80e2a9ac94fa54ca49f",
			"dc2a4459e7369633a52b1bf277839a00201009a3efbf3ecb69bea2186c26b58909351fc9ac90b3ecfdfbc7c66431e0303dca179c138ac17ad9bef1177331a704",
		},
	} {
		seed, text := api.Key(unhex(t, c.seed)), unhex(t, c.text)
		public, sig := api.Key(unhex(t, c.public)), api.Sig(unhex(t, c.sig))
		if got := Public(seed); got != public {
			t.Errorf("Public of %s: %x, not %s", c.seed, got, c.public)
		}
		if got := Sign(seed, text); got != sig {
			t.Errorf("Sign of %s by %s: %x, not %s", c.text, c.seed, got, c.sig)
		}
		if !Verify(public, sig, text) {
			t.Errorf("the signature of %s by %s isn't verified", c.text, c.seed)
		}
		check(t, seed, text)
	}
}

func TestTheExample(t *testing.T) {
	draw := rand.New(rand.NewPCG(13, 1))
	for range 50 {
		seed, text := drawnKey(draw), drawn(draw, draw.IntN(40))
		public, sig := Public(seed), Sign(seed, text)
		s := theS(sig)
		if !Verify(public, sig, text) {
			t.Errorf("the signature of %x by %x isn't verified", text, seed)
		}
		refuse(t, "one with one more", public, withS(sig, new(big.Int).Add(s, big.NewInt(1))), text)
		refuse(t, "one with l more", public, withS(sig, new(big.Int).Add(s, order())), text)
	}
}

func TestAgainstTheLibrary(t *testing.T) {
	draw := rand.New(rand.NewPCG(13, 2))
	for range 300 {
		check(t, drawnKey(draw), drawn(draw, draw.IntN(300)))
	}
	for _, n := range []int{api.MaxText, api.MaxBytes, api.MaxBytes + 1, 1 << 20} {
		check(t, drawnKey(draw), drawn(draw, n))
	}
}

func TestEveryLength(t *testing.T) {
	// The digests' blocks have 128 bytes, of which 32 or 64 stand ahead of the text.
	draw := rand.New(rand.NewPCG(13, 3))
	seed, text := drawnKey(draw), drawn(draw, 300)
	for n := range len(text) + 1 {
		check(t, seed, text[:n])
	}
}

func TestSeedsOfEveryBit(t *testing.T) {
	text := []byte("a text")
	for i := range 256 {
		var none, all api.Key
		for j := range all {
			all[j] = 0xff
		}
		check(t, api.Key(flipped(none[:], i)), text)
		check(t, api.Key(flipped(all[:], i)), text)
		if i == 0 {
			check(t, none, text)
			check(t, all, text)
		}
	}
}

func TestWhatIsSignedIsBelowTheOrder(t *testing.T) {
	draw := rand.New(rand.NewPCG(13, 4))
	for range 300 {
		if sig := Sign(drawnKey(draw), drawn(draw, 10)); theS(sig).Cmp(order()) >= 0 {
			t.Errorf("the S of %x isn't below l", sig)
		}
	}
}

// cuts is a text's parts when it is cut at random, empty parts among them.
func cuts(draw *rand.Rand, text []byte) [][]byte {
	var parts [][]byte
	for len(text) > 0 {
		n := draw.IntN(min(len(text), 70) + 1)
		parts, text = append(parts, text[:n]), text[n:]
	}
	return append(parts, nil)
}

func TestPartsAreOneBehindTheOther(t *testing.T) {
	draw := rand.New(rand.NewPCG(13, 5))
	for n := range 100 {
		seed, text := drawnKey(draw), drawn(draw, 3*n)
		public, whole := Public(seed), Sign(seed, text)
		parts := cuts(draw, text)
		if got := Sign(seed, parts...); got != whole {
			t.Errorf("Sign of %x: %x, not %x", parts, got, whole)
		}
		if !Verify(public, whole, parts...) {
			t.Errorf("the signature of %x isn't verified, in the parts %x", text, parts)
		}
	}
}

func TestEveryCut(t *testing.T) {
	draw := rand.New(rand.NewPCG(13, 6))
	seed, text := drawnKey(draw), drawn(draw, 100)
	public, whole := Public(seed), Sign(seed, text)
	for n := range len(text) + 1 {
		if got := Sign(seed, text[:n], text[n:]); got != whole {
			t.Errorf("Sign, cut at %d: %x, not %x", n, got, whole)
		}
		if !Verify(public, whole, text[:n], text[n:]) {
			t.Errorf("cut at %d: not verified", n)
		}
		// The other way round it is another text, unless one part is empty.
		if n > 0 && n < len(text) {
			refuse(t, "a text with its parts the other way round", public, whole, text[n:], text[:n])
		}
	}
}

func TestNoPartsAndEmptyOnes(t *testing.T) {
	draw := rand.New(rand.NewPCG(13, 7))
	seed := drawnKey(draw)
	public, sig := Public(seed), Sign(seed)
	check(t, seed, nil)
	for _, parts := range [][][]byte{nil, {}, {nil}, {{}}, {nil, {}, nil}} {
		if got := Sign(seed, parts...); got != sig {
			t.Errorf("Sign of %#v: %x, not %x", parts, got, sig)
		}
		if !Verify(public, sig, parts...) {
			t.Errorf("the signature of no bytes isn't verified, in %#v", parts)
		}
	}
	refuse(t, "a byte of 0, for none", public, sig, []byte{0})
	refuse(t, "no bytes, for one of 0", public, Sign(seed, []byte{0}))
}

func TestEveryBitIsVerified(t *testing.T) {
	draw := rand.New(rand.NewPCG(13, 8))
	seed, text := drawnKey(draw), drawn(draw, 40)
	public, sig := Public(seed), Sign(seed, text)
	for i := range 8 * len(sig) {
		refuse(t, "another bit of the signature", public, api.Sig(flipped(sig[:], i)), text)
	}
	for i := range 8 * len(public) {
		refuse(t, "another bit of the public key", api.Key(flipped(public[:], i)), sig, text)
	}
	for i := range 8 * len(text) {
		refuse(t, "another bit of the text", public, sig, flipped(text, i))
	}
	for n := range len(text) {
		refuse(t, "a text's start", public, sig, text[:n])
		refuse(t, "a text with less in it", public, sig, text[:n], text[n+1:])
	}
	refuse(t, "a text and more", public, sig, text, []byte{0})
}

func TestOthersAreNotVerified(t *testing.T) {
	draw := rand.New(rand.NewPCG(13, 9))
	for range 50 {
		mine, other, text := drawnKey(draw), drawnKey(draw), drawn(draw, 20)
		sig := Sign(mine, text)
		refuse(t, "another's key", Public(other), sig, text)
		refuse(t, "the seed itself", mine, sig, text)
		refuse(t, "halves of two signatures", Public(mine), withS(sig, theS(Sign(mine, text, text))), text)
		swapped := api.Sig(slices.Concat(sig[32:], sig[:32]))
		refuse(t, "halves the other way round", Public(mine), swapped, text)
		refuse(t, "noughts", Public(mine), api.Sig{}, text)
		refuse(t, "any bytes", Public(mine), api.Sig(drawn(draw, 64)), text)
	}
}

func TestTheOppositesAreNotVerified(t *testing.T) {
	draw := rand.New(rand.NewPCG(13, 10))
	for range 30 {
		seed, text := drawnKey(draw), drawn(draw, 20)
		public, sig := Public(seed), Sign(seed, text)
		opposite := new(big.Int).Sub(order(), theS(sig))
		refuse(t, "the opposite S", public, withS(sig, opposite), text)
		refuse(t, "the opposite R", public, api.Sig(flipped(sig[:], 255)), text)
		refuse(t, "the opposite of both", public, withS(api.Sig(flipped(sig[:], 255)), opposite), text)
		refuse(t, "the opposite A", api.Key(flipped(public[:], 255)), sig, text)
	}
}

func TestEveryMultipleOfTheOrderMore(t *testing.T) {
	draw := rand.New(rand.NewPCG(13, 11))
	for range 5 {
		seed, text := drawnKey(draw), drawn(draw, 20)
		public, sig := Public(seed), Sign(seed, text)
		for s := new(big.Int).Add(theS(sig), order()); fits(s); s.Add(s, order()) {
			refuse(t, "one with some l more", public, withS(sig, s), text)
		}
	}
}

// craft is a public key and a signature of a text by it, for a secret number and the
// number for this signature. Each point has one of the eight of few multiples beside it.
func craft(text []byte, secret, once *big.Int, besideA, besideR points.Point) (api.Key, api.Sig) {
	public := multipleOf(secret).Add(besideA).Bytes()
	r := multipleOf(once).Add(besideR).Bytes()
	s := new(big.Int).Mul(between(r, public, text), secret)
	return public, withS(withR(api.Sig{}, r), mod(s.Add(s, once)))
}

func TestPointsOfFewMultiples(t *testing.T) {
	// S times the base point less h times A is the right R, but for h times what is
	// beside A: whether R has just that beside it, h modulo 8 tells.
	draw := rand.New(rand.NewPCG(13, 12))
	eight := few(t)
	right := 0
	for _, secret := range []*big.Int{new(big.Int), big.NewInt(1), drawnNumber(draw)} {
		for _, once := range []*big.Int{new(big.Int), drawnNumber(draw)} {
			for i, j := 0, 0; i < 8; i, j = i+(j+1)/8, (j+1)%8 {
				text := drawn(draw, 9)
				public, sig := craft(text, secret, once, eight[i], eight[j])
				h := between(api.Key(sig[:32]), public, text)
				want := (new(big.Int).Mod(h, big.NewInt(8)).Int64()*int64(i)+int64(j))%8 == 0
				if got := Verify(public, sig, text); got != want {
					t.Errorf("secret %d, number %d, %d and %d of few multiples beside: %v", secret, once, i, j, got)
				}
				if got := ed25519.Verify(public[:], text, sig[:]); got != want {
					t.Errorf("the test's own answer for %d and %d isn't the library's", i, j)
				}
				if want {
					right++
				}
			}
		}
	}
	if right < 20 {
		t.Errorf("just %d of the signatures are right ones", right)
	}
}

func TestTheEndsOfS(t *testing.T) {
	// If A is Zero, S times the base point is R, whatever the text is.
	zero := points.Zero().Bytes()
	for _, c := range []struct {
		s    *big.Int
		want bool
	}{
		{new(big.Int), true},
		{big.NewInt(1), true},
		{new(big.Int).Lsh(big.NewInt(1), 252), true},
		{new(big.Int).Sub(order(), big.NewInt(2)), true},
		{new(big.Int).Sub(order(), big.NewInt(1)), true},
		{order(), false},
		{new(big.Int).Add(order(), big.NewInt(1)), false},
		{new(big.Int).Lsh(order(), 1), false},
		{new(big.Int).Lsh(big.NewInt(1), 253), false},
		{new(big.Int).Lsh(big.NewInt(1), 255), false},
		{new(big.Int).Sub(new(big.Int).Lsh(big.NewInt(1), 256), big.NewInt(1)), false},
	} {
		sig := withS(withR(api.Sig{}, multipleOf(c.s).Bytes()), c.s)
		if got := Verify(zero, sig, []byte("any text")); got != c.want {
			t.Errorf("S of %x: %v", c.s, got)
		}
	}
}

// bytesOfNoPoint is public keys that aren't a point's bytes, but would be those of a
// point of few multiples, if what they tell were taken modulo p, or without x's bit.
func bytesOfNoPoint() map[api.Key]points.Point {
	over := func(y int64) api.Key { return toKey(new(big.Int).Add(prime(), big.NewInt(y))) }
	minus := toKey(new(big.Int).Sub(prime(), big.NewInt(1)))
	second, _ := points.Read(minus)
	quarter, _ := points.Read(api.Key{})
	bit := func(k api.Key) api.Key { return api.Key(flipped(k[:], 255)) }
	return map[api.Key]points.Point{
		over(1):         points.Zero(),
		bit(over(1)):    points.Zero(),
		bit(api.Key{1}): points.Zero(),
		bit(minus):      second,
		over(0):         quarter,
		bit(over(0)):    quarter.Negate(),
	}
}

func TestPublicKeysThatAreNoPointsBytes(t *testing.T) {
	draw := rand.New(rand.NewPCG(13, 13))
	eight := few(t)
	for public, meant := range bytesOfNoPoint() {
		once, right := drawnNumber(draw), 0
		for right < 3 {
			text := drawn(draw, 9)
			// R is what R would be, if the bytes were those of the point that is meant.
			j := draw.IntN(8)
			r := multipleOf(once).Add(eight[j]).Bytes()
			sig := withS(withR(api.Sig{}, r), once)
			refuse(t, "a key that is no point's bytes", public, sig, text)
			h := between(r, public, text)
			if meant.Times(toKey(h)).Add(eight[j]).Same(points.Zero()) {
				right++
				if !ed25519.Verify(public[:], text, sig[:]) {
					t.Errorf("the test's own signature for %x isn't right", public)
				}
			}
		}
	}
}

func TestPublicKeysOfNoPoint(t *testing.T) {
	// Of the y's about 0 and p some have no point. Nothing at all is verified by them.
	draw := rand.New(rand.NewPCG(13, 14))
	none := 0
	for off := int64(-40); off <= 18; off++ {
		for _, high := range []bool{false, true} {
			public := toKey(new(big.Int).Add(prime(), big.NewInt(off)))
			if high {
				public = api.Key(flipped(public[:], 255))
			}
			if _, err := points.Read(public); err == nil {
				continue
			}
			none++
			refuse(t, "noughts, by a key of no point", public, api.Sig{}, drawn(draw, 9))
			once := drawnNumber(draw)
			sig := withS(withR(api.Sig{}, multipleOf(once).Bytes()), once)
			refuse(t, "any signature, by a key of no point", public, sig, drawn(draw, 9))
		}
	}
	if none < 38 {
		t.Errorf("just %d keys of no point", none)
	}
}

func TestFirstHalvesThatAreNoPointsBytes(t *testing.T) {
	// A is Zero, so that S times the base point is all that R is held against.
	zero := points.Zero().Bytes()
	if !Verify(zero, withR(api.Sig{}, zero), []byte("any text")) {
		t.Error("Zero's signature of noughts isn't verified")
	}
	for r := range bytesOfNoPoint() {
		refuse(t, "an R that is no point's bytes", zero, withR(api.Sig{}, r), []byte("any text"))
	}
	draw := rand.New(rand.NewPCG(13, 15))
	for range 50 {
		refuse(t, "any R", zero, withR(api.Sig{}, drawnKey(draw)), []byte("any text"))
	}
}

func TestNoughts(t *testing.T) {
	// The key of noughts is a point of four multiples: its signature of noughts is right
	// for those texts of which h times the point, taken away, leaves the point itself.
	draw := rand.New(rand.NewPCG(13, 16))
	counts := map[bool]int{}
	for range 100 {
		text := drawn(draw, 9)
		h := between(api.Key{}, api.Key{}, text)
		want := h.Bit(0) == 1 && h.Bit(1) == 1
		if got := Verify(api.Key{}, api.Sig{}, text); got != want {
			t.Errorf("noughts, for %x: %v", text, got)
		}
		counts[want]++
	}
	if counts[true] == 0 || counts[false] == 0 {
		t.Errorf("texts of one kind alone: %v", counts)
	}
}

func TestPartsAreLeftAsTheyAre(t *testing.T) {
	draw := rand.New(rand.NewPCG(13, 17))
	seed := drawnKey(draw)
	room := drawn(draw, 60)
	before := slices.Clone(room)
	// The parts have room behind them, and their list has too.
	list := [][]byte{room[:10], room[10:20], room[20:30], room[30:40]}
	parts := list[:2]
	sig := Sign(seed, parts...)
	public := Public(seed)
	if !Verify(public, sig, parts...) {
		t.Error("what is signed isn't verified")
	}
	if !bytes.Equal(room, before) {
		t.Errorf("the bytes are changed: %x, not %x", room, before)
	}
	for i, part := range list {
		if !bytes.Equal(part, before[10*i:10*(i+1)]) || &part[0] != &room[10*i] {
			t.Errorf("part %d of the list is another one", i)
		}
	}
}

func TestNothingIsKept(t *testing.T) {
	draw := rand.New(rand.NewPCG(13, 18))
	seed, text := drawnKey(draw), drawn(draw, 50)
	public, sig := Public(seed), Sign(seed, text)
	mine := sig
	for i := range text {
		text[i] ^= 0xff
	}
	refuse(t, "the changed text", public, sig, text)
	other := Sign(seed, text)
	if sig != mine || other == sig {
		t.Error("a signature changes with its text, or doesn't hang on it")
	}
	for i := range text {
		text[i] ^= 0xff
	}
	Public(drawnKey(draw))
	Verify(drawnKey(draw), other, text)
	if Sign(seed, text) != sig || Public(seed) != public || !Verify(public, sig, text) {
		t.Error("a second call answers otherwise than the first")
	}
}

func BenchmarkSign(b *testing.B) {
	text := make([]byte, 100)
	for b.Loop() {
		Sign(api.Key{1}, text)
	}
}

func BenchmarkVerify(b *testing.B) {
	text := make([]byte, 100)
	public, sig := Public(api.Key{1}), Sign(api.Key{1}, text)
	for b.Loop() {
		Verify(public, sig, text)
	}
}
