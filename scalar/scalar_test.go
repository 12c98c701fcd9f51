package scalar

import (
	"encoding/hex"
	"math"
	"math/big"
	"math/rand/v2"
	"slices"
	"testing"

	"fellowship/api"
)

// power is 2^n.
func power(n uint) *big.Int { return new(big.Int).Lsh(big.NewInt(1), n) }

// plusInt is a number and a small one.
func plusInt(n *big.Int, more int64) *big.Int { return new(big.Int).Add(n, big.NewInt(more)) }

// theOrder is l, as the chapter writes it.
func theOrder() *big.Int {
	return new(big.Int).Add(power(252), theTail())
}

// theTail is l less 2^252.
func theTail() *big.Int {
	n, _ := new(big.Int).SetString("27742317777372353535851937790883648493", 10)
	return n
}

// mod is a number modulo l, from 0 on.
func mod(n *big.Int) *big.Int { return new(big.Int).Mod(n, theOrder()) }

// toKey is a number's low 32 bytes, the low one first.
func toKey(n *big.Int) api.Key {
	var key api.Key
	new(big.Int).Mod(n, power(256)).FillBytes(key[:])
	slices.Reverse(key[:])
	return key
}

// toWide is a number's low 64 bytes, the low one first.
func toWide(n *big.Int) api.Wide {
	var wide api.Wide
	new(big.Int).Mod(n, power(512)).FillBytes(wide[:])
	slices.Reverse(wide[:])
	return wide
}

// fromKey is the number of 32 bytes, the low one first.
func fromKey(key api.Key) *big.Int {
	slices.Reverse(key[:])
	return new(big.Int).SetBytes(key[:])
}

// fromWide is the number of 64 bytes, the low one first.
func fromWide(wide api.Wide) *big.Int {
	slices.Reverse(wide[:])
	return new(big.Int).SetBytes(wide[:])
}

// unhex is the key that a text writes out.
func unhex(t *testing.T, s string) api.Key {
	t.Helper()
	b, err := hex.DecodeString(s)
	if err != nil || len(b) != 32 {
		t.Fatal("the test's own key isn't one", s)
	}
	return api.Key(b)
}

// fill draws bytes that are often at their least or greatest, where carries run far.
func fill(draw *rand.Rand, b []byte) {
	kind := draw.IntN(4)
	for i := range b {
		switch pick := draw.IntN(4); {
		case kind == 0 || pick == 0:
			b[i] = byte(draw.Uint32())
		case kind == 1 || pick == 1:
			b[i] = 0xff
		}
	}
}

// drawn is a number of 256 bits.
func drawn(draw *rand.Rand) *big.Int {
	var key api.Key
	fill(draw, key[:])
	return fromKey(key)
}

// drawnWide is a number of 512 bits.
func drawnWide(draw *rand.Rand) *big.Int {
	var wide api.Wide
	fill(draw, wide[:])
	return fromWide(wide)
}

// within is those numbers that are from 0 to 2^n - 1.
func within(n int, all []*big.Int) []*big.Int {
	return slices.DeleteFunc(all, func(one *big.Int) bool { return one.Sign() < 0 || one.BitLen() > n })
}

// edges are numbers of 256 bits about 0, every multiple of l, their halves, 2^252's
// multiples, and each power of 2.
func edges() []*big.Int {
	var about []*big.Int
	for times := range int64(34) {
		half := new(big.Int).Mul(theOrder(), big.NewInt(times))
		about = append(about, half.Rsh(half, 1), new(big.Int).Mul(power(251), big.NewInt(times)))
	}
	for bit := range uint(257) {
		about = append(about, power(bit), new(big.Int).Sub(theOrder(), power(bit)))
	}
	about = append(about, theTail())
	var out []*big.Int
	for _, n := range about {
		for off := int64(-3); off <= 3; off++ {
			out = append(out, plusInt(n, off))
		}
	}
	return within(256, out)
}

// corners are numbers of 256 bits whose limbs are each at one of their ends, half a
// word long: noughts, or all ones.
func corners() []*big.Int {
	var out []*big.Int
	for set := range 1 << 8 {
		n := new(big.Int)
		for limb := range 8 {
			if set>>limb&1 == 1 {
				n.Or(n, new(big.Int).Lsh(plusInt(power(32), -1), uint(32*limb)))
			}
		}
		out = append(out, n, plusInt(n, 1), plusInt(n, -1))
	}
	return within(256, out)
}

// wideEdges are numbers of 512 bits at which a rest is hard to come by: multiples of l
// about each power of 2, and numbers whose front is at most one l, or just above 2^252,
// wherever it stands.
func wideEdges() []*big.Int {
	var out []*big.Int
	for bit := range uint(260) {
		for off := int64(-1); off <= 1; off++ {
			multiple := new(big.Int).Mul(theOrder(), plusInt(power(bit), off))
			for more := int64(-2); more <= 2; more++ {
				out = append(out, plusInt(multiple, more))
			}
		}
	}
	fronts := []*big.Int{theTail(), power(252), theOrder(), new(big.Int).Rsh(theOrder(), 1), power(256)}
	for shift := uint(0); shift <= 260; shift++ {
		for _, front := range fronts {
			for off := int64(-1); off <= 1; off++ {
				n := new(big.Int).Lsh(plusInt(front, off), shift)
				out = append(out, n, plusInt(n, -1), plusInt(n, 1), new(big.Int).Add(n, plusInt(power(shift), -1)))
			}
		}
	}
	for bit := range uint(513) {
		out = append(out, plusInt(power(bit), -1), power(bit), plusInt(power(bit), 1), new(big.Int).Sub(power(512), power(bit)))
	}
	return within(512, out)
}

// check holds an answer against the number that it should be, modulo l.
func check(t *testing.T, got api.Key, want *big.Int, what string, of ...*big.Int) {
	t.Helper()
	if want = mod(want); got != toKey(want) {
		t.Errorf("%s of %x: %x, not %x", what, of, got, toKey(want))
	}
}

func TestTheExample(t *testing.T) {
	want := unhex(t, "ecd3f55c1a631258d69cf7a2def9de1400000000000000000000000000000010")
	if got := Negate(api.Key{1}); got != want {
		t.Errorf("Negate(1): %x", got)
	}
}

func TestRightAboutTheOrder(t *testing.T) {
	for _, c := range []struct {
		text string
		want bool
	}{
		{"0000000000000000000000000000000000000000000000000000000000000000", true},
		{"0100000000000000000000000000000000000000000000000000000000000000", true},
		{"0000000000000000000000000000000000000000000000000000000000000010", true},
		{"ffffffffffffffffffffffffffffffffffffffffffffffffffffffffffffff0f", true},
		{"ecd3f55c1a631258d69cf7a2def9de1400000000000000000000000000000010", true},
		{"edd3f55c1a631258d69cf7a2def9de1400000000000000000000000000000010", false},
		{"eed3f55c1a631258d69cf7a2def9de1400000000000000000000000000000010", false},
		{"ffd3f55c1a631258d69cf7a2def9de1300000000000000000000000000000010", true},
		{"00d4f55c1a631258d69cf7a2def9de1400000000000000000000000000000010", false},
		{"0000000000000000000000000000001500000000000000000000000000000010", false},
		{"0000000000000000000000000000000001000000000000000000000000000010", false},
		{"0000000000000000000000000000000000000000000000000000000000000110", false},
		{"0000000000000000000000000000000000000000000000000000000000000011", false},
		{"0000000000000000000000000000000000000000000000000000000000000020", false},
		{"0000000000000000000000000000000000000000000000000000000000000080", false},
		{"ecd3f55c1a631258d69cf7a2def9de1400000000000000000000000000000090", false},
		{"ffffffffffffffffffffffffffffffffffffffffffffffffffffffffffffffff", false},
	} {
		if got := Right(unhex(t, c.text)); got != c.want {
			t.Errorf("Right of %s: %v", c.text, got)
		}
	}
}

func TestRightIsBelowTheOrder(t *testing.T) {
	draw := rand.New(rand.NewPCG(11, 1))
	all := slices.Concat(edges(), corners())
	for range 5000 {
		all = append(all, drawn(draw), mod(drawnWide(draw)))
	}
	for _, n := range all {
		if got, want := Right(toKey(n)), n.Cmp(theOrder()) < 0; got != want {
			t.Errorf("Right of %x: %v", n, got)
		}
	}
}

func TestEveryBitAboutTheOrderTells(t *testing.T) {
	// Of l itself and of l - 1 each bit is turned: more makes it wrong, less right.
	for _, n := range []*big.Int{theOrder(), plusInt(theOrder(), -1)} {
		for bit := range 256 {
			other := new(big.Int).SetBit(n, bit, n.Bit(bit)^1)
			if got, want := Right(toKey(other)), other.Cmp(theOrder()) < 0; got != want {
				t.Errorf("Right of %x: %v", other, got)
			}
		}
	}
}

func TestReduceOfEdges(t *testing.T) {
	for _, n := range wideEdges() {
		check(t, Reduce(toWide(n)), n, "Reduce", n)
	}
	for _, n := range slices.Concat(edges(), corners()) {
		check(t, Reduce(toWide(n)), n, "Reduce", n)
		high := new(big.Int).Lsh(n, 256)
		check(t, Reduce(toWide(high)), high, "Reduce", high)
		both := new(big.Int).Or(high, n)
		check(t, Reduce(toWide(both)), both, "Reduce", both)
	}
}

func TestReduceOfEveryBit(t *testing.T) {
	for i := range uint(512) {
		var wide api.Wide
		wide[i/8] = 1 << (i % 8)
		check(t, Reduce(wide), power(i), "Reduce", power(i))
	}
}

func TestReduceOfMany(t *testing.T) {
	draw := rand.New(rand.NewPCG(11, 2))
	for range 30000 {
		n := drawnWide(draw)
		check(t, Reduce(toWide(n)), n, "Reduce", n)
		// A multiple of l with little beside it.
		multiple := new(big.Int).Mul(theOrder(), drawn(draw))
		multiple.Add(multiple, big.NewInt(int64(draw.IntN(5))))
		check(t, Reduce(toWide(multiple)), multiple, "Reduce", multiple)
	}
}

func TestReduceOfTheGreatest(t *testing.T) {
	// Numbers whose rests are another program's.
	var ones, first api.Wide
	for i := range ones {
		ones[i] = 0xff
	}
	copy(first[:], ones[:32])
	for _, c := range []struct {
		wide api.Wide
		want string
	}{
		{api.Wide{}, "0000000000000000000000000000000000000000000000000000000000000000"},
		{first, "1c95988d7431ecd670cf7d73f45befc6feffffffffffffffffffffffffffff0f"},
		{ones, "000f9c44e31106a447938568a71b0ed065bef517d273ecce3d9a307c1b419903"},
	} {
		if got := Reduce(c.wide); got != unhex(t, c.want) {
			t.Errorf("Reduce of %x: %x, not %s", c.wide, got, c.want)
		}
	}
}

// checkPair holds the sums and the products of two numbers against the reference.
func checkPair(t *testing.T, a, b *big.Int) {
	t.Helper()
	x, y := toKey(a), toKey(b)
	check(t, Add(x, y), new(big.Int).Add(a, b), "Add", a, b)
	check(t, Times(x, y), new(big.Int).Mul(a, b), "Times", a, b)
	check(t, Add(y, x), new(big.Int).Add(a, b), "Add", b, a)
	check(t, Times(y, x), new(big.Int).Mul(a, b), "Times", b, a)
}

func TestPairsOfEdges(t *testing.T) {
	draw := rand.New(rand.NewPCG(11, 3))
	all := slices.Concat(edges(), corners())
	for i, a := range all {
		checkPair(t, a, a)
		checkPair(t, a, all[len(all)-1-i])
		for range 5 {
			checkPair(t, a, all[draw.IntN(len(all))])
		}
	}
	var about []*big.Int
	for off := int64(-2); off <= 2; off++ {
		for _, n := range []*big.Int{new(big.Int), theTail(), power(252), theOrder(), power(256), new(big.Int).Rsh(theOrder(), 1), new(big.Int).Mul(theOrder(), big.NewInt(15))} {
			about = append(about, plusInt(n, off))
		}
	}
	about = within(256, about)
	for _, a := range about {
		for _, b := range about {
			checkPair(t, a, b)
		}
	}
}

func TestManyPairs(t *testing.T) {
	draw := rand.New(rand.NewPCG(11, 4))
	for range 10000 {
		checkPair(t, drawn(draw), drawn(draw))
		checkPair(t, mod(drawnWide(draw)), mod(drawnWide(draw)))
	}
}

func TestSumsAboutTheOrder(t *testing.T) {
	// Two numbers below l whose sum is about l, so that it is left as it is, or isn't.
	draw := rand.New(rand.NewPCG(11, 5))
	for range 1000 {
		a := mod(drawnWide(draw))
		for off := int64(-2); off <= 2; off++ {
			if b := plusInt(new(big.Int).Sub(theOrder(), a), off); b.Sign() >= 0 {
				checkPair(t, a, b)
			}
		}
	}
}

func TestEveryPairOfBits(t *testing.T) {
	for i := range uint(256) {
		for j := range uint(256) {
			x, y := toKey(power(i)), toKey(power(j))
			check(t, Times(x, y), power(i+j), "Times", power(i), power(j))
			check(t, Add(x, y), new(big.Int).Add(power(i), power(j)), "Add", power(i), power(j))
		}
	}
}

func TestNegate(t *testing.T) {
	draw := rand.New(rand.NewPCG(11, 6))
	all := slices.Concat(edges(), corners())
	for range 5000 {
		all = append(all, drawn(draw), mod(drawnWide(draw)))
	}
	for _, n := range all {
		key := toKey(n)
		check(t, Negate(key), new(big.Int).Neg(n), "Negate", n)
		check(t, Negate(Negate(key)), n, "Negate, twice", n)
		check(t, Add(key, Negate(key)), new(big.Int), "a number and its opposite", n)
	}
	for times := range int64(16) {
		multiple := new(big.Int).Mul(theOrder(), big.NewInt(times))
		if got := Negate(toKey(multiple)); got != (api.Key{}) {
			t.Errorf("Negate of %d times l: %x", times, got)
		}
	}
}

func TestAnswersAreRight(t *testing.T) {
	draw := rand.New(rand.NewPCG(11, 7))
	for range 3000 {
		a, b, wide := toKey(drawn(draw)), toKey(drawn(draw)), toWide(drawnWide(draw))
		for what, got := range map[string]api.Key{
			"Reduce": Reduce(wide), "Add": Add(a, b), "Times": Times(a, b), "Negate": Negate(a),
		} {
			if !Right(got) {
				t.Errorf("%s of %x and %x (or %x) isn't below l: %x", what, a, b, wide, got)
			}
		}
	}
}

func TestLaws(t *testing.T) {
	draw := rand.New(rand.NewPCG(11, 8))
	zero, one := api.Key{}, api.Key{1}
	for range 3000 {
		a, b, c := toKey(drawn(draw)), toKey(drawn(draw)), toKey(drawn(draw))
		least := toKey(mod(fromKey(a)))
		for name, pair := range map[string][2]api.Key{
			"0 more":                 {Add(a, zero), least},
			"1 times":                {Times(a, one), least},
			"0 times":                {Times(a, zero), zero},
			"l - 1 times":            {Times(a, Negate(one)), Negate(a)},
			"a sum one way or other": {Add(Add(a, b), c), Add(a, Add(b, c))},
			"a product, likewise":    {Times(Times(a, b), c), Times(a, Times(b, c))},
			"a sum's product":        {Times(a, Add(b, c)), Add(Times(a, b), Times(a, c))},
			"a sum's opposite":       {Negate(Add(a, b)), Add(Negate(a), Negate(b))},
			"both halves of a wide":  {Reduce(api.Wide(slices.Concat(a[:], b[:]))), Add(a, Times(b, Reduce(api.Wide{32: 1})))},
		} {
			if pair[0] != pair[1] {
				t.Errorf("%s, of %x, %x and %x: %x, not %x", name, a, b, c, pair[0], pair[1])
			}
		}
	}
}

func TestPowersComeRound(t *testing.T) {
	// l is a prime: the power l - 1 of all that isn't 0 is 1, and l - 2 the inverse.
	draw := rand.New(rand.NewPCG(11, 9))
	for range 100 {
		a := toKey(drawn(draw))
		inverse, exponent := api.Key{1}, plusInt(theOrder(), -2)
		for i := exponent.BitLen() - 1; i >= 0; i-- {
			inverse = Times(inverse, inverse)
			if exponent.Bit(i) == 1 {
				inverse = Times(inverse, a)
			}
		}
		if mod(fromKey(a)).Sign() == 0 {
			continue
		}
		if got := Times(a, inverse); got != (api.Key{1}) {
			t.Errorf("%x times its inverse: %x", a, got)
		}
	}
}

func TestEveryBit(t *testing.T) {
	draw := rand.New(rand.NewPCG(11, 10))
	keys := []api.Key{{}, toKey(plusInt(power(256), -1)), toKey(theOrder())}
	for range 50 {
		keys = append(keys, toKey(drawn(draw)))
	}
	for i := range 256 {
		keys = append(keys, toKey(power(uint(i))), toKey(plusInt(power(256), -1-int64(i))))
	}
	for _, key := range keys {
		n := fromKey(key)
		for i := range 256 {
			// The bits are those of the 32 bytes, whether they are below l or not.
			if got := Bit(key, i); got != (n.Bit(i) == 1) {
				t.Errorf("Bit %d of %x: %v", i, key, got)
			}
		}
	}
}

func TestBitsThatThereAreNot(t *testing.T) {
	ones := toKey(plusInt(power(256), -1))
	for _, i := range []int{math.MinInt, math.MinInt + 1, -1 << 32, -256, -255, -9, -8, -7, -1, 256, 257, 263, 264, 511, 512, 1 << 32, 1<<32 + 1, math.MaxInt - 1, math.MaxInt} {
		if Bit(ones, i) || Bit(api.Key{}, i) {
			t.Errorf("Bit %d is 1", i)
		}
	}
	if !Bit(ones, 0) || !Bit(ones, 255) {
		t.Error("the first bit of all ones, or the last one, isn't 1")
	}
}

func TestNumbersStayTheirOwners(t *testing.T) {
	a, b := toKey(plusInt(power(256), -1)), toKey(theOrder())
	wide := toWide(plusInt(power(512), -1))
	wasA, wasB, wasWide := a, b, wide
	sum, product, opposite, rest := Add(a, b), Times(a, b), Negate(a), Reduce(wide)
	Right(a)
	Bit(a, 3)
	if a != wasA || b != wasB || wide != wasWide {
		t.Error("a number that was handed in is changed")
	}
	// The table of l is as it was: the same calls answer the same.
	if sum != Add(a, b) || product != Times(a, b) || opposite != Negate(a) || rest != Reduce(wide) {
		t.Error("the same calls don't answer the same")
	}
	if Right(toKey(theOrder())) || !Right(toKey(plusInt(theOrder(), -1))) {
		t.Error("l has changed")
	}
}

func BenchmarkReduce(b *testing.B) {
	wide := toWide(plusInt(power(512), -1))
	for b.Loop() {
		Reduce(wide)
	}
}

func BenchmarkTimes(b *testing.B) {
	x, y := toKey(plusInt(power(256), -1)), toKey(plusInt(theOrder(), -1))
	for b.Loop() {
		Times(x, y)
	}
}
