package points

import (
	"crypto/ed25519"
	"crypto/sha512"
	"encoding/hex"
	"errors"
	"math/big"
	"math/rand/v2"
	"slices"
	"testing"

	"fellowship/api"
)

// power is 2^n.
func power(n uint) *big.Int { return new(big.Int).Lsh(big.NewInt(1), n) }

// plusInt is a number and a small one.
func plusInt(n *big.Int, more int64) *big.Int { return new(big.Int).Add(n, big.NewInt(more)) }

// prime is p.
func prime() *big.Int { return plusInt(power(255), -19) }

// order is l, how many multiples the base point has.
func order() *big.Int {
	n, _ := new(big.Int).SetString("27742317777372353535851937790883648493", 10)
	return n.Add(n, power(252))
}

// mod is a number modulo p, from 0 on.
func mod(n *big.Int) *big.Int { return new(big.Int).Mod(n, prime()) }

// times is a product modulo p.
func times(a, b *big.Int) *big.Int { return mod(new(big.Int).Mul(a, b)) }

// over is a quotient modulo p.
func over(a, b *big.Int) *big.Int {
	return times(a, new(big.Int).ModInverse(mod(b), prime()))
}

// bend is the curve's d.
func bend() *big.Int { return over(big.NewInt(-121665), big.NewInt(121666)) }

// toKey is a number's low 32 bytes, the low one first.
func toKey(n *big.Int) api.Key {
	var key api.Key
	new(big.Int).Mod(n, power(256)).FillBytes(key[:])
	slices.Reverse(key[:])
	return key
}

// fromKey is the number of 32 bytes, the low one first, with all its bits.
func fromKey(key api.Key) *big.Int {
	slices.Reverse(key[:])
	return new(big.Int).SetBytes(key[:])
}

// small is the key of a small number.
func small(n int64) api.Key { return toKey(big.NewInt(n)) }

// unhex is the key that a text writes out.
func unhex(t *testing.T, s string) api.Key {
	t.Helper()
	b, err := hex.DecodeString(s)
	if err != nil || len(b) != 32 {
		t.Fatal("the test's own key isn't one", s)
	}
	return api.Key(b)
}

// flipped is a key with another bit i.
func flipped(k api.Key, i int) api.Key {
	k[i/8] ^= 1 << (i % 8)
	return k
}

// drawn is a key of any bits.
func drawn(draw *rand.Rand) api.Key {
	var k api.Key
	for i := range k {
		k[i] = byte(draw.Uint32())
	}
	return k
}

// rough is a key whose bytes are often at their least or greatest.
func rough(draw *rand.Rand) api.Key {
	k := drawn(draw)
	for i := range k {
		switch draw.IntN(4) {
		case 0:
			k[i] = 0
		case 1:
			k[i] = 0xff
		}
	}
	return k
}

// spot is a point by both its coordinates.
type spot struct{ x, y *big.Int }

// nought is the point (0, 1).
func nought() spot { return spot{new(big.Int), big.NewInt(1)} }

// base is the base point, as the standard (RFC 8032) writes it out.
func base() spot {
	x, _ := new(big.Int).SetString("15112221349535400772501151409588531511454012693041857206046113283949847762202", 10)
	y, _ := new(big.Int).SetString("46316835694926478169428394003475163141307993866256225615783033603165251855960", 10)
	return spot{x, y}
}

// plus is the sum by the curve's law.
func (a spot) plus(b spot) spot {
	xy, yx := times(a.x, b.y), times(a.y, b.x)
	xx, yy := times(a.x, b.x), times(a.y, b.y)
	e := times(bend(), times(xx, yy))
	one := big.NewInt(1)
	return spot{
		over(new(big.Int).Add(xy, yx), new(big.Int).Add(one, e)),
		over(new(big.Int).Add(yy, xx), new(big.Int).Sub(one, e)),
	}
}

// minus is the opposite point.
func (a spot) minus() spot { return spot{mod(new(big.Int).Neg(a.x)), a.y} }

// many is a point so many times, bit by bit.
func (a spot) many(n *big.Int) spot {
	all := nought()
	for i := n.BitLen() - 1; i >= 0; i-- {
		all = all.plus(all)
		if n.Bit(i) == 1 {
			all = all.plus(a)
		}
	}
	return all
}

// same tells whether they are the same.
func (a spot) same(b spot) bool { return a.x.Cmp(b.x) == 0 && a.y.Cmp(b.y) == 0 }

// lies tells whether it is on the curve.
func (a spot) lies() bool {
	xx, yy := times(a.x, a.x), times(a.y, a.y)
	right := plusInt(times(bend(), times(xx, yy)), 1)
	return mod(new(big.Int).Sub(yy, xx)).Cmp(mod(right)) == 0
}

// bytes is the point's bytes.
func (a spot) bytes() api.Key {
	k := toKey(a.y)
	k[31] |= byte(a.x.Bit(0)) << 7
	return k
}

// find is the point that has a y and such an x, if there is one.
func find(y *big.Int, odd bool) (spot, bool) {
	yy := times(y, y)
	xx := over(plusInt(yy, -1), plusInt(times(bend(), yy), 1))
	x := new(big.Int).ModSqrt(xx, prime())
	if x == nil || x.Sign() == 0 && odd {
		return spot{}, false
	}
	if x.Bit(0) == 1 != odd {
		x = mod(new(big.Int).Neg(x))
	}
	return spot{x, y}, true
}

// take is the point of a spot's bytes.
func take(t *testing.T, a spot) Point {
	t.Helper()
	p, err := Read(a.bytes())
	if err != nil {
		t.Fatalf("Read of %x: %v", a.bytes(), err)
	}
	return p
}

// check holds a point against the one that it should be, by all that tells of it.
func check(t *testing.T, got Point, want spot, what string, of ...api.Key) {
	t.Helper()
	if !want.lies() {
		t.Fatalf("the test's own point isn't on the curve: %s of %x", what, of)
	}
	if b := got.Bytes(); b != want.bytes() {
		t.Errorf("%s of %x: bytes %x, not %x", what, of, b, want.bytes())
		return
	}
	again := take(t, want)
	if !got.Same(again) || !again.Same(got) || !got.Same(got) {
		t.Errorf("%s of %x isn't the same as the point of its bytes", what, of)
	}
	zero := want.same(nought())
	if got.Same(Zero()) != zero || Zero().Same(got) != zero {
		t.Errorf("%s of %x: the same as Zero isn't %v", what, of, zero)
	}
}

// eighth is a point whose multiples are the eight that 8 times are Zero.
func eighth(t *testing.T) spot {
	t.Helper()
	for y := int64(2); ; y++ {
		// A point l times has just what isn't the base point's own.
		if p, is := find(big.NewInt(y), false); is {
			if q := p.many(order()); !q.many(big.NewInt(4)).same(nought()) {
				return q
			}
		}
	}
}

// pointsOfAllKinds is points of unlike orders: Zero, the eight of few multiples, the
// base point, others, and such with one of the eight beside it.
func pointsOfAllKinds(t *testing.T, draw *rand.Rand) []spot {
	t.Helper()
	var all []spot
	few := eighth(t)
	for i := range int64(8) {
		torsion := few.many(big.NewInt(i))
		other := base().many(fromKey(drawn(draw)))
		all = append(all, torsion, base().plus(torsion), other.plus(torsion), base().minus().plus(torsion))
	}
	return all
}

// edgeNumbers is numbers of 256 bits about 0, l, its multiples by few, and 2^256.
func edgeNumbers() []*big.Int {
	var all []*big.Int
	for off := int64(-2); off <= 2; off++ {
		for _, many := range []int64{0, 1, 2, 4, 7, 8, 9, 15} {
			all = append(all, plusInt(new(big.Int).Mul(order(), big.NewInt(many)), off))
		}
		for _, bit := range []uint{4, 8, 128, 252, 253, 254, 255, 256} {
			all = append(all, plusInt(power(bit), off))
		}
	}
	return slices.DeleteFunc(all, func(n *big.Int) bool { return n.Sign() < 0 || n.BitLen() > 256 })
}

func TestTheExample(t *testing.T) {
	l := unhex(t, "edd3f55c1a631258d69cf7a2def9de1400000000000000000000000000000010")
	if got := Base().Times(l); !got.Same(Zero()) || got.Bytes() != (api.Key{1}) {
		t.Errorf("Base().Times(l): %x", got.Bytes())
	}
}

func TestZeroAndBase(t *testing.T) {
	check(t, Zero(), nought(), "Zero")
	check(t, Base(), base(), "Base")
	if got := Zero().Bytes(); got != (api.Key{1}) {
		t.Errorf("Zero: %x", got)
	}
	if got := Base().Bytes(); got != unhex(t, "5866666666666666666666666666666666666666666666666666666666666666") {
		t.Errorf("Base: %x", got)
	}
	if Zero().Same(Base()) || Base().Same(Zero()) {
		t.Error("Zero and Base are the same")
	}
}

func TestFirstMultiples(t *testing.T) {
	for _, start := range []spot{base(), base().plus(eighth(t))} {
		p, walked, want := take(t, start), Zero(), nought()
		for n := range int64(300) {
			check(t, walked, want, "a sum on its way", small(n))
			check(t, p.Times(small(n)), want, "Times", small(n))
			check(t, walked.Negate(), want.minus(), "Negate of a sum", small(n))
			walked, want = walked.Add(p), want.plus(start)
		}
	}
}

func TestMultiplesThatAreKnown(t *testing.T) {
	// The first four, of another program.
	for n, text := range []string{
		"0100000000000000000000000000000000000000000000000000000000000000",
		"5866666666666666666666666666666666666666666666666666666666666666",
		"c9a3f86aae465f0e56513864510f3997561fa2c9e85ea21dc2292309f3cd6022",
		"d4b4f5784868c3020403246717ec169ff79e26608ea126a1ab69ee77d1b16712",
	} {
		if got := Base().Times(api.Key{byte(n)}).Bytes(); got != unhex(t, text) {
			t.Errorf("%d times the base point: %x, not %s", n, got, text)
		}
	}
}

func TestTheStandardsKeys(t *testing.T) {
	for seed, public := range map[string]string{
		"9d61b19deffd5a60ba844af492ec2cc44449c5697b326919703bac031cae7f60": "d75a980182b10ab7d54bfed3c964073a0ee172f3daa62325af021a68f707511a",
		"4ccd089b28ff96da9db6c346ec114e0f5b8a319f35aba624da8cf6ed4fb8a6fb": "3d4017c3e843895a92b70aa74d1b7ebc9c982ccf2ec4968cc0cd55f12af4660c",
		"c5aa8df43f9f837bedb7442f31dcb7b166d38535076f094b85ce3a2e0b4458f7": "fc51cd8e6218a1a38da47ed00230f0580816ed13ba3303ac5deb911548908025",
	} {
		if got := Base().Times(secret(unhex(t, seed))).Bytes(); got != unhex(t, public) {
			t.Errorf("the public key of %s: %x, not %s", seed, got, public)
		}
	}
}

// secret is the number that a seed's public key is so many times the base point.
func secret(seed api.Key) api.Key {
	wide := sha512.Sum512(seed[:])
	k := api.Key(wide[:32])
	k[0] &= 0xf8
	k[31] = k[31]&0x3f | 0x40
	return k
}

func TestTimesAgainstTheLibrary(t *testing.T) {
	draw := rand.New(rand.NewPCG(12, 1))
	for range 500 {
		seed := drawn(draw)
		want := api.Key(ed25519.NewKeyFromSeed(seed[:]).Public().(ed25519.PublicKey))
		k := secret(seed)
		got := Base().Times(k)
		if got.Bytes() != want {
			t.Errorf("%x times the base point: %x, not %x", k, got.Bytes(), want)
		}
		read, err := Read(want)
		if err != nil || !read.Same(got) || read.Bytes() != want {
			t.Errorf("Read of %x: %x, %v", want, read.Bytes(), err)
		}
	}
}

func TestWithAgainstTheLibrarysSignatures(t *testing.T) {
	draw := rand.New(rand.NewPCG(12, 2))
	for n := range 100 {
		seed, text := drawn(draw), make([]byte, n)
		key := ed25519.NewKeyFromSeed(seed[:])
		sig := ed25519.Sign(key, text)
		public := key.Public().(ed25519.PublicKey)
		wide := sha512.Sum512(slices.Concat(sig[:32], public, text))
		slices.Reverse(wide[:])
		h := toKey(new(big.Int).Mod(new(big.Int).SetBytes(wide[:]), order()))
		a, err := Read(api.Key(public))
		if err != nil {
			t.Fatal(err)
		}
		if got := a.Negate().With(h, api.Key(sig[32:])).Bytes(); got != api.Key(sig[:32]) {
			t.Errorf("the half R of a signature by %x: %x, not %x", seed, got, sig[:32])
		}
	}
}

func TestTimesOfEdges(t *testing.T) {
	draw := rand.New(rand.NewPCG(12, 3))
	for _, a := range []spot{base(), eighth(t), base().many(fromKey(drawn(draw))).plus(eighth(t))} {
		p := take(t, a)
		for _, n := range edgeNumbers() {
			check(t, p.Times(toKey(n)), a.many(n), "Times", a.bytes(), toKey(n))
		}
	}
}

func TestTimesOfAllKinds(t *testing.T) {
	draw := rand.New(rand.NewPCG(12, 4))
	for _, a := range pointsOfAllKinds(t, draw) {
		p := take(t, a)
		for _, k := range []api.Key{{}, {1}, drawn(draw), rough(draw), toKey(order())} {
			check(t, p.Times(k), a.many(fromKey(k)), "Times", a.bytes(), k)
		}
	}
}

func TestTimesByEveryBit(t *testing.T) {
	draw := rand.New(rand.NewPCG(12, 5))
	a := base().many(fromKey(drawn(draw))).plus(eighth(t))
	p, k, want := take(t, a), drawn(draw), a
	whole := p.Times(k)
	for i := range 256 {
		bit := flipped(api.Key{}, i)
		one := p.Times(bit)
		check(t, one, want, "Times by a bit", bit)
		// With another bit it's more or less by just as many.
		if k[i/8]>>(i%8)&1 == 1 {
			one = one.Negate()
		}
		if got := p.Times(flipped(k, i)); !got.Same(whole.Add(one)) || got.Same(whole) {
			t.Errorf("Times by %x with another bit %d: %x", k, i, got.Bytes())
		}
		want = want.plus(want)
	}
}

func TestTimesByEveryDigit(t *testing.T) {
	// Each half of a byte at each place, by sums alone.
	p := take(t, base().plus(eighth(t)))
	unit := p
	for i := range 64 {
		want := Zero()
		for digit := range 16 {
			var k api.Key
			k[i/2] = byte(digit << (i % 2 * 4))
			if got := p.Times(k); !got.Same(want) {
				t.Errorf("Times by %x: %x, not %x", k, got.Bytes(), want.Bytes())
			}
			if got := p.With(k, k); !got.Same(want.Add(Base().Times(k))) {
				t.Errorf("With %x: %x", k, got.Bytes())
			}
			want = want.Add(unit)
		}
		unit = want
	}
}

func TestNumbersArentTakenModuloTheOrder(t *testing.T) {
	few := eighth(t)
	p := take(t, few.plus(base()))
	seen := map[api.Key]bool{}
	for i := range int64(8) {
		n := new(big.Int).Mul(order(), big.NewInt(i))
		got := p.Times(toKey(n))
		check(t, got, few.many(n), "Times", toKey(n))
		check(t, p.With(toKey(n), toKey(n)), few.many(n), "With", toKey(n))
		seen[got.Bytes()] = true
	}
	if len(seen) != 8 {
		t.Errorf("multiples of l come to %d points, not to 8", len(seen))
	}
	if got := p.Times(toKey(new(big.Int).Lsh(order(), 3))); !got.Same(Zero()) {
		t.Errorf("8 l times a point: %x", got.Bytes())
	}
}

func TestPointsOfFewMultiples(t *testing.T) {
	// All that 8 times are Zero, as their lists are known.
	known := []string{
		"0100000000000000000000000000000000000000000000000000000000000000",
		"ecffffffffffffffffffffffffffffffffffffffffffffffffffffffffffff7f",
		"0000000000000000000000000000000000000000000000000000000000000000",
		"0000000000000000000000000000000000000000000000000000000000000080",
		"26e8958fc2b227b045c3f489f2ef98f0d5dfac05d3c63339b13802886d53fc05",
		"26e8958fc2b227b045c3f489f2ef98f0d5dfac05d3c63339b13802886d53fc85",
		"c7176a703d4dd84fba3c0b760d10670f2a2053fa2c39ccc64ec7fd7792ac037a",
		"c7176a703d4dd84fba3c0b760d10670f2a2053fa2c39ccc64ec7fd7792ac03fa",
	}
	orders := []int64{1, 2, 4, 4, 8, 8, 8, 8}
	for i, text := range known {
		p, err := Read(unhex(t, text))
		if err != nil || p.Bytes() != unhex(t, text) {
			t.Fatalf("Read of %s: %v", text, err)
		}
		for n := range int64(40) {
			if got := p.Times(small(n)).Same(Zero()); got != (n%orders[i] == 0) {
				t.Errorf("%d times %s: Zero is %v", n, text, got)
			}
		}
	}
	few := eighth(t)
	p := take(t, few)
	for i := range int64(8) {
		for j := range int64(8) {
			a, b := p.Times(small(i)), p.Times(small(j))
			check(t, a.Add(b), few.many(big.NewInt(i+j)), "Add", small(i), small(j))
			if a.Same(b) != (i == j) {
				t.Errorf("%d and %d times are the same: %v", i, j, a.Same(b))
			}
		}
		if !slices.Contains(known, hex.EncodeToString(bytesOf(p.Times(small(i))))) {
			t.Errorf("%d times isn't among the eight", i)
		}
	}
}

// bytesOf is a point's bytes as a row.
func bytesOf(p Point) []byte {
	b := p.Bytes()
	return b[:]
}

func TestSumsOfAllKinds(t *testing.T) {
	draw := rand.New(rand.NewPCG(12, 6))
	all := pointsOfAllKinds(t, draw)
	for _, a := range all {
		p := take(t, a)
		check(t, p.Negate(), a.minus(), "Negate", a.bytes())
		check(t, p.Add(p), a.plus(a), "Add of itself", a.bytes())
		check(t, p.Add(p.Negate()), nought(), "Add of its opposite", a.bytes())
		check(t, p.Negate().Add(p), nought(), "Add of its opposite", a.bytes())
		check(t, p.Negate().Negate(), a, "Negate twice", a.bytes())
		check(t, p.Add(Zero()), a, "Add of Zero", a.bytes())
		check(t, Zero().Add(p), a, "Add to Zero", a.bytes())
		for _, b := range all {
			check(t, p.Add(take(t, b)), a.plus(b), "Add", a.bytes(), b.bytes())
		}
	}
}

func TestWithOfAllKinds(t *testing.T) {
	draw := rand.New(rand.NewPCG(12, 7))
	for _, a := range pointsOfAllKinds(t, draw) {
		p, h, s := take(t, a), rough(draw), rough(draw)
		want := a.many(fromKey(h)).plus(base().many(fromKey(s)))
		check(t, p.With(h, s), want, "With", a.bytes(), h, s)
	}
}

func TestWithIsBothTimes(t *testing.T) {
	draw := rand.New(rand.NewPCG(12, 8))
	var edges []api.Key
	for _, n := range edgeNumbers() {
		edges = append(edges, toKey(n))
	}
	few := take(t, eighth(t))
	for range 300 {
		p := Base().Times(drawn(draw)).Add(few.Times(drawn(draw)))
		h, s := drawn(draw), edges[draw.IntN(len(edges))]
		for range 2 {
			if got, want := p.With(h, s), p.Times(h).Add(Base().Times(s)); !got.Same(want) || got.Bytes() != want.Bytes() {
				t.Errorf("%x with %x and %x: %x, not %x", p.Bytes(), h, s, got.Bytes(), want.Bytes())
			}
			h, s = s, h
		}
		if got := p.With(h, api.Key{}); !got.Same(p.Times(h)) {
			t.Errorf("%x with %x and 0: %x", p.Bytes(), h, got.Bytes())
		}
		if got := p.With(api.Key{}, s); !got.Same(Base().Times(s)) {
			t.Errorf("%x with 0 and %x: %x", p.Bytes(), s, got.Bytes())
		}
	}
	if got := Base().With(api.Key{}, api.Key{}); !got.Same(Zero()) {
		t.Errorf("the base point with 0 and 0: %x", got.Bytes())
	}
	// Both halves may cancel, or be one point.
	k := drawn(draw)
	if got := Base().Negate().With(k, k); !got.Same(Zero()) {
		t.Errorf("opposites together: %x", got.Bytes())
	}
	if got := Base().With(k, k); !got.Same(Base().Times(k).Add(Base().Times(k))) {
		t.Errorf("the base point with %x and %x: %x", k, k, got.Bytes())
	}
}

func TestEveryBitOfWithTells(t *testing.T) {
	draw := rand.New(rand.NewPCG(12, 9))
	p, h, s := Base().Times(drawn(draw)).Add(take(t, eighth(t))), drawn(draw), drawn(draw)
	whole := p.With(h, s)
	for i := range 256 {
		if p.With(flipped(h, i), s).Same(whole) || p.With(h, flipped(s, i)).Same(whole) {
			t.Errorf("With is the same with another bit %d", i)
		}
	}
}

func TestLaws(t *testing.T) {
	draw := rand.New(rand.NewPCG(12, 10))
	few := take(t, eighth(t))
	for range 100 {
		p := Base().Times(drawn(draw)).Add(few.Times(drawn(draw)))
		q := Base().Times(drawn(draw)).Add(few.Times(drawn(draw)))
		r := Base().Times(drawn(draw)).Negate()
		a, b := fromKey(drawn(draw)), fromKey(drawn(draw))
		a.Rsh(a, 130)
		b.Rsh(b, 130)
		sum, product := new(big.Int).Add(a, b), new(big.Int).Mul(a, b)
		for name, pair := range map[string][2]Point{
			"a sum turned":        {p.Add(q), q.Add(p)},
			"sums of three":       {p.Add(q).Add(r), p.Add(q.Add(r))},
			"there and back":      {p.Add(q).Add(q.Negate()), p},
			"an opposite sum":     {p.Add(q).Negate(), p.Negate().Add(q.Negate())},
			"a sum of numbers":    {p.Times(toKey(sum)), p.Times(toKey(a)).Add(p.Times(toKey(b)))},
			"a product":           {p.Times(toKey(product)), p.Times(toKey(a)).Times(toKey(b))},
			"a product turned":    {p.Times(toKey(b)).Times(toKey(a)), p.Times(toKey(a)).Times(toKey(b))},
			"a sum so many times": {p.Add(q).Times(toKey(a)), p.Times(toKey(a)).Add(q.Times(toKey(a)))},
			"an opposite":         {p.Negate().Times(toKey(a)), p.Times(toKey(a)).Negate()},
		} {
			if !pair[0].Same(pair[1]) || pair[0].Bytes() != pair[1].Bytes() {
				t.Errorf("%s: %x and %x", name, pair[0].Bytes(), pair[1].Bytes())
			}
		}
	}
}

func TestLongWays(t *testing.T) {
	// What one call answers is what the next is handed.
	draw := rand.New(rand.NewPCG(12, 11))
	for range 5 {
		a, b := base().plus(eighth(t)), base().many(big.NewInt(int64(draw.IntN(100))))
		p, q := take(t, a), take(t, b)
		for range 60 {
			was, wasPoint := a, p
			switch draw.IntN(5) {
			case 0:
				p, a = p.Add(q), a.plus(b)
			case 1:
				p, a = p.Add(p), a.plus(a)
			case 2:
				p, a = p.Negate().Add(q), a.minus().plus(b)
			case 3:
				n := int64(draw.IntN(1000))
				p, a = p.Times(small(n)), a.many(big.NewInt(n))
			case 4:
				h, s := int64(draw.IntN(1000)), int64(draw.IntN(1000))
				p, a = p.With(small(h), small(s)), a.many(big.NewInt(h)).plus(base().many(big.NewInt(s)))
			}
			check(t, p, a, "a step", was.bytes(), b.bytes())
			if draw.IntN(3) == 0 {
				q, b = wasPoint, was
			}
		}
	}
}

func TestSameWhateverTheForm(t *testing.T) {
	draw := rand.New(rand.NewPCG(12, 12))
	for _, a := range pointsOfAllKinds(t, draw) {
		p := take(t, a)
		q := take(t, base().many(fromKey(drawn(draw))))
		forms := []Point{p, p.Add(q).Add(q.Negate()), p.Negate().Negate(), p.Times(small(1)), p.With(small(1), api.Key{}), p.Add(q).Add(p).Add(q.Add(p).Negate())}
		for _, one := range forms {
			for _, other := range forms {
				if !one.Same(other) || one.Bytes() != other.Bytes() {
					t.Errorf("forms of %x aren't the same: %x and %x", a.bytes(), one.Bytes(), other.Bytes())
				}
			}
		}
	}
}

func TestPointsWithOneCoordinateInCommonArentTheSame(t *testing.T) {
	draw := rand.New(rand.NewPCG(12, 13))
	for range 50 {
		a := base().many(fromKey(drawn(draw))).plus(eighth(t))
		p := take(t, a)
		// (-x, y), (x, -y) and (-x, -y).
		opposite := spot{a.x, mod(new(big.Int).Neg(a.y))}
		for _, other := range []spot{a.minus(), opposite, opposite.minus()} {
			q := take(t, other)
			for _, one := range []Point{q, q.Add(p).Add(p.Negate())} {
				if p.Same(one) || one.Same(p) || p.Bytes() == one.Bytes() {
					t.Errorf("%x and %x are the same", p.Bytes(), one.Bytes())
				}
			}
		}
	}
}

// checkRead holds Read of 32 bytes against what the words say of them.
func checkRead(t *testing.T, b api.Key) bool {
	t.Helper()
	n := fromKey(b)
	y, odd := new(big.Int).Mod(n, power(255)), n.Bit(255) == 1
	var want spot
	is := y.Cmp(prime()) < 0
	if is {
		want, is = find(y, odd)
	}
	got, err := Read(b)
	if !is {
		if !errors.Is(err, api.ErrForm) || got != (Point{}) {
			t.Errorf("Read of %x, which is no point's: %x, %v", b, got.Bytes(), err)
		}
		return false
	}
	if err != nil {
		t.Errorf("Read of %x: %v", b, err)
		return true
	}
	check(t, got, want, "Read", b)
	if got.Bytes() != b {
		t.Errorf("Read of %x has the bytes %x", b, got.Bytes())
	}
	return true
}

func TestReadOfEdges(t *testing.T) {
	var all []*big.Int
	for off := int64(-60); off <= 60; off++ {
		for _, n := range []*big.Int{new(big.Int), new(big.Int).Rsh(prime(), 1), prime(), power(255), power(254)} {
			all = append(all, plusInt(n, off))
		}
	}
	for bit := range uint(255) {
		all = append(all, power(bit), plusInt(power(bit), -1), new(big.Int).Sub(prime(), power(bit)))
	}
	kinds := map[bool]int{}
	for _, n := range all {
		if n.Sign() < 0 || n.BitLen() > 255 {
			continue
		}
		for _, high := range []*big.Int{new(big.Int), power(255)} {
			kinds[checkRead(t, toKey(new(big.Int).Add(n, high)))]++
		}
	}
	if kinds[true] < 300 || kinds[false] < 300 {
		t.Errorf("bytes of points and others: %v", kinds)
	}
}

func TestReadOfMany(t *testing.T) {
	draw := rand.New(rand.NewPCG(12, 14))
	kinds := map[bool]int{}
	for range 1500 {
		kinds[checkRead(t, drawn(draw))]++
		kinds[checkRead(t, rough(draw))]++
	}
	if kinds[true] < 1000 || kinds[false] < 1000 {
		t.Errorf("bytes of points and others: %v", kinds)
	}
}

func TestReadRefusesBytesBeyondP(t *testing.T) {
	// From p to 2^255 - 1 are just 19, of which many would be points modulo p.
	for off := range int64(19) {
		for _, n := range []*big.Int{prime(), new(big.Int).Add(prime(), power(255))} {
			b := toKey(plusInt(n, off))
			if got, err := Read(b); !errors.Is(err, api.ErrForm) || got != (Point{}) {
				t.Errorf("Read of %x: %x, %v", b, got.Bytes(), err)
			}
		}
	}
	if _, err := Read(toKey(plusInt(prime(), -1))); err != nil {
		t.Errorf("Read of p - 1: %v", err)
	}
}

func TestReadRefusesAnOddXThatIs0(t *testing.T) {
	// Just 1 and -1 are the y of a point whose x is 0.
	for _, y := range []*big.Int{big.NewInt(1), plusInt(prime(), -1)} {
		b := toKey(y)
		p, err := Read(b)
		if err != nil || p.Bytes() != b || !p.Negate().Same(p) || p.Negate().Bytes() != b {
			t.Errorf("Read of %x: %x, %v", b, p.Bytes(), err)
		}
		b = flipped(b, 255)
		if got, err := Read(b); !errors.Is(err, api.ErrForm) || got != (Point{}) {
			t.Errorf("Read of %x: %x, %v", b, got.Bytes(), err)
		}
	}
	// y = 0 has points whose x isn't 0: both signs are taken.
	for _, b := range []api.Key{{}, {31: 0x80}} {
		if p, err := Read(b); err != nil || p.Bytes() != b {
			t.Errorf("Read of %x: %x, %v", b, p.Bytes(), err)
		}
	}
}

func TestTheHighestBitTellsTheOpposite(t *testing.T) {
	draw := rand.New(rand.NewPCG(12, 15))
	odd := map[bool]int{}
	for range 200 {
		p := Base().Times(drawn(draw))
		b := p.Bytes()
		q, err := Read(flipped(b, 255))
		if err != nil || !q.Same(p.Negate()) || q.Same(p) || q.Bytes() != flipped(b, 255) {
			t.Errorf("Read of %x with the other highest bit: %x, %v", b, q.Bytes(), err)
		}
		odd[b[31]>>7 == 1]++
	}
	if odd[true] < 50 || odd[false] < 50 {
		t.Errorf("odd and even: %v", odd)
	}
}

func TestWhatReadRefusedDoesNotPanic(t *testing.T) {
	p, err := Read(small(2))
	if !errors.Is(err, api.ErrForm) {
		t.Fatalf("Read of 2: %v", err)
	}
	_, _, _ = p.Add(Base()).Bytes(), Base().Add(p).Negate(), p.Times(small(3))
	_, _ = p.With(small(3), small(4)), p.Same(p)
}

func TestACallKeepsNothingOfOthers(t *testing.T) {
	draw := rand.New(rand.NewPCG(12, 16))
	k := drawn(draw)
	p := Base().Times(k)
	b := p.Bytes()
	heldKey, heldBytes, held := k, b, p
	q, err := Read(b)
	if err != nil {
		t.Fatal(err)
	}
	for range 2 {
		_, _, _ = p.Add(q), p.Negate(), p.Times(k)
		_, _ = p.With(k, k), Base().Negate()
		if k != heldKey || b != heldBytes || p != held {
			t.Errorf("what was handed in is changed: %x, %x, %x", k, b, p.Bytes())
		}
		told := p.Bytes()
		clear(told[:])
		if p.Bytes() != b || !q.Same(p) || !Base().Times(k).Same(p) {
			t.Errorf("another answer behind other calls: %x, not %x", p.Bytes(), b)
		}
	}
	clear(b[:])
	if !q.Same(p) {
		t.Error("Read keeps the bytes that it's handed")
	}
	check(t, Base(), base(), "Base behind other calls")
	check(t, Zero(), nought(), "Zero behind other calls")
}

func BenchmarkTimes(b *testing.B) {
	p, k := Base(), drawn(rand.New(rand.NewPCG(12, 17)))
	for b.Loop() {
		p = p.Times(k)
	}
}

func BenchmarkWith(b *testing.B) {
	p, k := Base(), drawn(rand.New(rand.NewPCG(12, 18)))
	for b.Loop() {
		p = p.With(k, k)
	}
}

func BenchmarkReadAndBytes(b *testing.B) {
	k := Base().Bytes()
	for b.Loop() {
		p, _ := Read(k)
		k = p.Bytes()
	}
}
