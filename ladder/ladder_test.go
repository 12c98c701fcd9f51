package ladder

import (
	"crypto/ecdh"
	"encoding/hex"
	"errors"
	"math/big"
	"math/rand/v2"
	"slices"
	"testing"

	"fellowship/api"
)

// power is 2^n.
func power(n uint) *big.Int { return new(big.Int).Lsh(big.NewInt(1), n) }

// prime is p.
func prime() *big.Int { return new(big.Int).Sub(power(255), big.NewInt(19)) }

// mod is a number modulo p, from 0 on.
func mod(n *big.Int) *big.Int { return new(big.Int).Mod(n, prime()) }

// order is how many multiples the base point has.
func order(t *testing.T) *big.Int {
	t.Helper()
	return new(big.Int).Add(power(252), decimal(t, "27742317777372353535851937790883648493"))
}

// toKey is a number's low 32 bytes, the low one first.
func toKey(n *big.Int) api.Key {
	var key api.Key
	new(big.Int).Mod(n, power(256)).FillBytes(key[:])
	slices.Reverse(key[:])
	return key
}

// fromKey is the number of 32 bytes, the low one first, with all its bits.
func fromKey(key api.Key) *big.Int {
	slices.Reverse(key[:])
	return new(big.Int).SetBytes(key[:])
}

// decimal is the number that a text writes out.
func decimal(t *testing.T, s string) *big.Int {
	t.Helper()
	n, ok := new(big.Int).SetString(s, 10)
	if !ok {
		t.Fatal("the test's own number isn't one", s)
	}
	return n
}

// unhex is the key that a text writes out.
func unhex(t *testing.T, s string) api.Key {
	t.Helper()
	b, err := hex.DecodeString(s)
	if err != nil || len(b) != 32 {
		t.Fatal("the test's own key isn't one", s)
	}
	return api.Key(b)
}

// flipped is a key with another bit i.
func flipped(k api.Key, i int) api.Key {
	k[i/8] ^= 1 << (i % 8)
	return k
}

// drawn is a key of any bits.
func drawn(draw *rand.Rand) api.Key {
	var k api.Key
	for i := range k {
		k[i] = byte(draw.Uint32())
	}
	return k
}

// rough is a key whose bytes are often at their least or greatest.
func rough(draw *rand.Rand) api.Key {
	k := drawn(draw)
	for i := range k {
		switch draw.IntN(4) {
		case 0:
			k[i] = 0
		case 1:
			k[i] = 0xff
		}
	}
	return k
}

// clamped is a key as the words say it: by numbers, not by bits.
func clamped(k api.Key) *big.Int {
	n := fromKey(k)
	n.Mod(n, power(254))
	n.Sub(n, new(big.Int).Mod(n, big.NewInt(8)))
	return n.Add(n, power(254))
}

// spot is a point with both its coordinates; nil is the curve's nought.
type spot struct{ x, y *big.Int }

// curve is b y^2 = x^3 + 486662 x^2 + x. A point whose y is 1 is on it by its own b,
// whatever its x is, so that it holds for points of the curve and of its twist alike.
type curve struct{ b *big.Int }

// over is a quotient modulo p.
func over(a, b *big.Int) *big.Int {
	return mod(new(big.Int).Mul(a, new(big.Int).ModInverse(mod(b), prime())))
}

// add is a sum by the line through both points.
func (c curve) add(p, q *spot) *spot {
	if p == nil {
		return q
	}
	if q == nil {
		return p
	}
	a := big.NewInt(486662)
	var slope *big.Int
	if p.x.Cmp(q.x) == 0 {
		if mod(new(big.Int).Add(p.y, q.y)).Sign() == 0 {
			return nil
		}
		top := new(big.Int).Mul(big.NewInt(3), new(big.Int).Mul(p.x, p.x))
		top.Add(top, new(big.Int).Mul(new(big.Int).Lsh(a, 1), p.x))
		slope = over(top.Add(top, big.NewInt(1)), new(big.Int).Lsh(new(big.Int).Mul(c.b, p.y), 1))
	} else {
		slope = over(new(big.Int).Sub(q.y, p.y), new(big.Int).Sub(q.x, p.x))
	}
	x := new(big.Int).Mul(c.b, new(big.Int).Mul(slope, slope))
	x = mod(x.Sub(x, new(big.Int).Add(a, new(big.Int).Add(p.x, q.x))))
	y := new(big.Int).Mul(slope, new(big.Int).Sub(p.x, x))
	return &spot{x, mod(y.Sub(y, p.y))}
}

// times is what a number of points with one x comes to, of which the answer is the x;
// that of the curve's nought is 0.
func times(n, x *big.Int) *big.Int {
	x = mod(x)
	if x.Sign() == 0 {
		// Twice this point is the nought, and every clamped key is even.
		return new(big.Int)
	}
	b := new(big.Int).Exp(x, big.NewInt(3), nil)
	b.Add(b, new(big.Int).Mul(big.NewInt(486662), new(big.Int).Mul(x, x)))
	c := curve{mod(b.Add(b, x))}
	start := &spot{x, big.NewInt(1)}
	var sum *spot
	for i := n.BitLen() - 1; i >= 0; i-- {
		sum = c.add(sum, sum)
		if n.Bit(i) == 1 {
			sum = c.add(sum, start)
		}
	}
	if sum == nil {
		return new(big.Int)
	}
	return sum.x
}

// reference is what Mult should answer.
func reference(k, u api.Key) api.Key {
	return toKey(times(clamped(k), new(big.Int).Mod(fromKey(u), power(255))))
}

// library is what the library's X25519 answers; false, if that refuses it.
func library(t *testing.T, k, u api.Key) (api.Key, bool) {
	t.Helper()
	secret, err := ecdh.X25519().NewPrivateKey(k[:])
	if err != nil {
		t.Fatal(err)
	}
	public, err := ecdh.X25519().NewPublicKey(u[:])
	if err != nil {
		t.Fatal(err)
	}
	common, err := secret.ECDH(public)
	if err != nil {
		return api.Key{}, false
	}
	return api.Key(common), true
}

// check holds Mult and Shared of a key and a point against what they should be.
func check(t *testing.T, k, u, want api.Key) {
	t.Helper()
	if got := Mult(k, u); got != want {
		t.Errorf("Mult of %x and %x: %x, not %x", k, u, got, want)
	}
	got, err := Shared(k, u)
	if want == (api.Key{}) {
		if !errors.Is(err, api.ErrKey) || got != (api.Key{}) {
			t.Errorf("Shared of %x and %x: %x, %v, though it is all noughts", k, u, got, err)
		}
		return
	}
	if err != nil || got != want {
		t.Errorf("Shared of %x and %x: %x, %v, not %x", k, u, got, err, want)
	}
}

// few are numbers below p whose points have 1, 2, 4 or 8 multiples, on the curve or on
// its twist: a clamped key times one of them is the nought.
func few(t *testing.T) []*big.Int {
	t.Helper()
	return []*big.Int{
		new(big.Int),
		big.NewInt(1),
		mod(big.NewInt(-1)),
		decimal(t, "325606250916557431795983626356110631294008115727848805560023387167927233504"),
		decimal(t, "39382357235489614581723060781553021112529911719440698176882885853963445705823"),
	}
}

// edgePoints are keys of points at which their reading has its turns: about 0, p, 2^255
// and 2^256, with and without the highest bit.
func edgePoints() []api.Key {
	var out []api.Key
	for off := int64(-21); off <= 21; off++ {
		for _, n := range []*big.Int{new(big.Int), prime(), power(255), new(big.Int).Add(power(255), prime())} {
			out = append(out, toKey(new(big.Int).Add(n, big.NewInt(off))))
		}
	}
	return out
}

// edgeKeys are keys at their ends, with and without the bits that are clamped.
func edgeKeys() []api.Key {
	var ones api.Key
	for i := range ones {
		ones[i] = 0xff
	}
	return []api.Key{{}, ones, {0: 1}, {0: 7}, {0: 8}, {31: 0x40}, {31: 0x80}, {31: 0xc0}, {31: 0x3f}, flipped(ones, 255), flipped(ones, 254), flipped(ones, 3)}
}

func TestClampOfAllFirstAndLastBytes(t *testing.T) {
	draw := rand.New(rand.NewPCG(10, 1))
	for b := range 256 {
		for _, k := range []api.Key{{}, drawn(draw), rough(draw)} {
			first, last := k, k
			first[0], last[31] = byte(b), byte(b)
			for _, key := range []api.Key{first, last} {
				if got := Clamp(key); got != toKey(clamped(key)) {
					t.Errorf("Clamp of %x: %x, not %x", key, got, toKey(clamped(key)))
				}
			}
		}
	}
}

func TestClampOfEveryBit(t *testing.T) {
	for i := range 256 {
		want := api.Key{31: 0x40}
		if i > 2 && i < 254 {
			want = flipped(want, i)
		}
		if got := Clamp(flipped(api.Key{}, i)); got != want {
			t.Errorf("Clamp of bit %d alone: %x", i, got)
		}
	}
	draw := rand.New(rand.NewPCG(10, 2))
	for _, k := range append(edgeKeys(), drawn(draw), rough(draw), rough(draw)) {
		once := Clamp(k)
		if once != toKey(clamped(k)) || Clamp(once) != once {
			t.Errorf("Clamp of %x: %x, and of that %x", k, once, Clamp(once))
		}
		for i := range 256 {
			same := i < 3 || i > 253
			if (Clamp(flipped(k, i)) == once) != same {
				t.Errorf("Clamp of %x with another bit %d: the same isn't %v", k, i, same)
			}
		}
	}
}

func TestTheStandardsExamples(t *testing.T) {
	for _, c := range [][3]string{
		{"a546e36bf0527c9d3b16154b82465edd62144c0ac1fc5a18506a2244ba449ac4", "e6db6867583030db3594c1a424b15f7c726624ec26b3353b10a903a6d0ab1c4c", "c3da55379de9c6908e94ea4df28d084f32eccf03491c71f754b4075577a28552"},
		{"4b66e9d4d1b4673c5ad22691957d6af5c11b6421e0ea01d42ca4169e7918ba0d", "e5210f12786811d3f4b7959d0538ae2c31dbe7106fc03c3efc4cd549c715a493", "95cbde9476e8907d7aade45cb4b873f88b595a68799fa152e6f8f7647aac7957"},
	} {
		check(t, unhex(t, c[0]), unhex(t, c[1]), unhex(t, c[2]))
	}
}

func TestTheStandardsTwo(t *testing.T) {
	alice := unhex(t, "77076d0a7318a57d3c16c17251b26645df4c2f87ebc0992ab177fba51db92c2a")
	bob := unhex(t, "5dab087e624a8a4b79e17f8b83800ee66f3bb1292618b6fd1c2f8b27ff88e0eb")
	alicePublic := unhex(t, "8520f0098930a754748b7ddcb43ef75a0dbf3a0d26381af4eba4a98eaa9b4e6a")
	bobPublic := unhex(t, "de9edb7d7b7dc1b4d35b61c2ece435373f8343c85b78674dadfc7e146f882b4f")
	common := unhex(t, "4a5d9d5ba4ce2de1728e3bf480350f25e07e21c947d19e3376f09b3c1e161742")
	if got := Base(alice); got != alicePublic {
		t.Errorf("the first one's public key: %x", got)
	}
	if got := Base(bob); got != bobPublic {
		t.Errorf("the second one's public key: %x", got)
	}
	check(t, alice, bobPublic, common)
	check(t, bob, alicePublic, common)
}

func TestTheStandardsRow(t *testing.T) {
	wants := map[int]string{
		1:    "422c8e7a6227d7bca1350b3e2bb7279f7897b87bb6854b783c60e80311ae3079",
		1000: "684cf59ba83309552800ef566f2f4d3c1c3887c49360e3875f2eb94d99532c51",
	}
	k, u := api.Key{9}, api.Key{9}
	for n := 1; n <= 1000; n++ {
		k, u = Mult(k, u), k
		if want, is := wants[n]; is && k != unhex(t, want) {
			t.Errorf("behind %d: %x, not %s", n, k, want)
		}
	}
}

func TestMultAgainstTheLinesThroughPoints(t *testing.T) {
	draw := rand.New(rand.NewPCG(10, 3))
	curves := map[bool]int{}
	for range 60 {
		k, u := rough(draw), drawn(draw)
		check(t, k, u, reference(k, u))
		x := mod(new(big.Int).Mod(fromKey(u), power(255)))
		y := new(big.Int).Add(new(big.Int).Mul(x, x), new(big.Int).Mul(big.NewInt(486662), x))
		y.Mul(y.Add(y, big.NewInt(1)), x)
		curves[big.Jacobi(mod(y), prime()) == 1]++
	}
	if curves[true] < 10 || curves[false] < 10 {
		t.Errorf("points of the curve and of its twist: %v", curves)
	}
	for _, u := range edgePoints() {
		k := drawn(draw)
		check(t, k, u, reference(k, u))
	}
	for _, k := range edgeKeys() {
		for _, u := range []api.Key{{}, {1}, {9}, drawn(draw), rough(draw)} {
			check(t, k, u, reference(k, u))
		}
	}
}

func TestMultAgainstTheLibrary(t *testing.T) {
	draw := rand.New(rand.NewPCG(10, 4))
	points := append(edgePoints(), edgeKeys()...)
	for range 500 {
		points = append(points, drawn(draw), rough(draw))
	}
	for _, u := range points {
		for _, k := range []api.Key{drawn(draw), rough(draw)} {
			want, _ := library(t, k, u)
			check(t, k, u, want)
		}
	}
	for _, k := range edgeKeys() {
		for _, u := range points[:100] {
			want, _ := library(t, k, u)
			check(t, k, u, want)
		}
	}
}

func TestEveryBitOfAKeyTells(t *testing.T) {
	draw := rand.New(rand.NewPCG(10, 5))
	k, u := drawn(draw), drawn(draw)
	for _, at := range []api.Key{{9}, u} {
		want := Mult(k, at)
		for i := range 256 {
			// Those that are clamped don't tell.
			same := i < 3 || i > 253
			if got := Mult(flipped(k, i), at); (got == want) != same {
				t.Errorf("Mult of %x with another bit %d and %x: the same isn't %v", k, i, at, same)
			}
		}
		if got := Mult(Clamp(k), at); got != want {
			t.Errorf("Mult of the clamped %x and %x: %x, not %x", k, at, got, want)
		}
	}
}

func TestEveryBitOfAPointTells(t *testing.T) {
	draw := rand.New(rand.NewPCG(10, 6))
	k, u := drawn(draw), drawn(draw)
	want := Mult(k, u)
	for i := range 256 {
		// The highest one doesn't tell.
		if got := Mult(k, flipped(u, i)); (got == want) != (i == 255) {
			t.Errorf("Mult of %x and %x with another bit %d: %x", k, u, i, got)
		}
	}
}

func TestPointsBeyondPAreThoseFrom0On(t *testing.T) {
	draw := rand.New(rand.NewPCG(10, 7))
	for off := range int64(19) {
		k := drawn(draw)
		want := Mult(k, api.Key{byte(off)})
		for _, n := range []*big.Int{prime(), power(255), new(big.Int).Add(power(255), prime())} {
			u := toKey(new(big.Int).Add(n, big.NewInt(off)))
			check(t, k, u, want)
		}
	}
}

func TestAnswersAreBelowP(t *testing.T) {
	draw := rand.New(rand.NewPCG(10, 8))
	for range 200 {
		if got := Mult(rough(draw), rough(draw)); fromKey(got).Cmp(prime()) >= 0 {
			t.Errorf("%x isn't the least one", got)
		}
	}
}

func TestBase(t *testing.T) {
	draw := rand.New(rand.NewPCG(10, 9))
	keys := edgeKeys()
	for range 200 {
		keys = append(keys, drawn(draw), rough(draw))
	}
	for _, k := range keys {
		got := Base(k)
		if got != Mult(k, api.Key{9}) {
			t.Errorf("Base of %x: %x, not what Mult with 9 is", k, got)
		}
		secret, err := ecdh.X25519().NewPrivateKey(k[:])
		if err != nil {
			t.Fatal(err)
		}
		if want := api.Key(secret.PublicKey().Bytes()); got != want {
			t.Errorf("Base of %x: %x, not %x", k, got, want)
		}
		if got == (api.Key{}) {
			t.Errorf("Base of %x is all noughts", k)
		}
	}
}

func TestBaseOfOppositeMultiples(t *testing.T) {
	// Two multiples whose sum is 8 times the order are opposite points, which have one
	// u-coordinate. As 8 times the order is just above 2^255, both are clamped numbers
	// if one of them is just above 2^254.
	whole := new(big.Int).Lsh(order(t), 3)
	draw := rand.New(rand.NewPCG(10, 16))
	keys := []api.Key{{31: 0x40}, {0: 8, 31: 0x40}, {15: 0x10, 31: 0x40}}
	for range 50 {
		k := drawn(draw)
		clear(k[15:])
		keys = append(keys, Clamp(k))
	}
	for _, k := range keys {
		opposite := toKey(new(big.Int).Sub(whole, fromKey(k)))
		if Clamp(k) != k || Clamp(opposite) != opposite || k == opposite {
			t.Fatalf("the test's own keys aren't clamped: %x, %x", k, opposite)
		}
		if one, two := Base(k), Base(opposite); one != two {
			t.Errorf("Base of %x and of its opposite %x: %x and %x", k, opposite, one, two)
		}
		if Base(k) == Base(flipped(k, 200)) {
			t.Errorf("Base of %x with another bit is the same", k)
		}
	}
}

func TestSharedOfPointsOfFewMultiples(t *testing.T) {
	draw := rand.New(rand.NewPCG(10, 10))
	for _, n := range few(t) {
		encodings := []*big.Int{n, new(big.Int).Add(n, power(255))}
		// As many as 2^255 has room for are told by p more too.
		if more := new(big.Int).Add(n, prime()); more.Cmp(power(255)) < 0 {
			encodings = append(encodings, more, new(big.Int).Add(more, power(255)))
		}
		for _, coded := range encodings {
			for _, k := range append(edgeKeys(), drawn(draw), rough(draw)) {
				check(t, k, toKey(coded), api.Key{})
			}
		}
		// Its neighbours have many.
		for _, off := range []int64{-1, 1} {
			near := mod(new(big.Int).Add(n, big.NewInt(off)))
			if slices.ContainsFunc(few(t), func(other *big.Int) bool { return other.Cmp(near) == 0 }) {
				continue
			}
			k := drawn(draw)
			common, err := Shared(k, toKey(near))
			if err != nil || common == (api.Key{}) || common != reference(k, toKey(near)) {
				t.Errorf("Shared of %x and %x: %x, %v", k, near, common, err)
			}
		}
	}
}

func TestSharedRefusesAllNoughtsAlone(t *testing.T) {
	draw := rand.New(rand.NewPCG(10, 11))
	for range 300 {
		k, u := rough(draw), rough(draw)
		got, err := Shared(k, u)
		if err != nil || got != Mult(k, u) {
			t.Errorf("Shared of %x and %x: %x, %v", k, u, got, err)
		}
	}
}

func TestTheExample(t *testing.T) {
	draw := rand.New(rand.NewPCG(10, 12))
	for _, k := range append(edgeKeys(), drawn(draw)) {
		if got := Mult(k, api.Key{}); got != (api.Key{}) {
			t.Errorf("Mult of %x and 0: %x", k, got)
		}
		if got, err := Shared(k, api.Key{}); !errors.Is(err, api.ErrKey) || got != (api.Key{}) {
			t.Errorf("Shared of %x and 0: %x, %v", k, got, err)
		}
	}
}

func TestBothWaysComeToTheSame(t *testing.T) {
	draw := rand.New(rand.NewPCG(10, 13))
	keys := edgeKeys()
	for range 10 {
		keys = append(keys, drawn(draw), rough(draw))
	}
	publics := map[api.Key]api.Key{}
	for _, k := range keys {
		publics[k] = Base(k)
	}
	for i, a := range keys {
		for _, b := range keys[:i+1] {
			one, other := Mult(a, publics[b]), Mult(b, publics[a])
			if one != other || one == (api.Key{}) {
				t.Errorf("%x and %x: %x one way, %x the other", a, b, one, other)
			}
			first, err := Shared(a, publics[b])
			if err != nil || first != one {
				t.Errorf("Shared of %x and the public %x: %x, %v", a, publics[b], first, err)
			}
		}
	}
}

func TestBothWaysFromAnyPoint(t *testing.T) {
	draw := rand.New(rand.NewPCG(10, 14))
	for range 200 {
		a, b, u := drawn(draw), rough(draw), rough(draw)
		if one, other := Mult(a, Mult(b, u)), Mult(b, Mult(a, u)); one != other {
			t.Errorf("%x and %x from %x: %x one way, %x the other", a, b, u, one, other)
		}
	}
}

func TestACallKeepsNothingOfOthers(t *testing.T) {
	draw := rand.New(rand.NewPCG(10, 15))
	k, u := drawn(draw), drawn(draw)
	heldKey, heldPoint, want := k, u, Mult(k, u)
	for range 2 {
		_, _, _ = Clamp(k), Base(k), Mult(drawn(draw), drawn(draw))
		if _, err := Shared(k, api.Key{}); err == nil {
			t.Error("Shared of noughts has no error")
		}
		check(t, k, u, want)
		if k != heldKey || u != heldPoint {
			t.Errorf("what was handed in is changed: %x, %x", k, u)
		}
		told := Mult(k, u)
		clear(told[:])
	}
}

func BenchmarkMult(b *testing.B) {
	k, u := api.Key{1, 2, 3}, api.Key{9}
	for b.Loop() {
		u = Mult(k, u)
	}
}
