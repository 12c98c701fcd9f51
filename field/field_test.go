package field

import (
	"encoding/hex"
	"errors"
	"math"
	"math/big"
	"math/rand/v2"
	"slices"
	"testing"

	"fellowship/api"
)

// power is 2^n.
func power(n uint) *big.Int { return new(big.Int).Lsh(big.NewInt(1), n) }

// prime is p.
func prime() *big.Int { return new(big.Int).Sub(power(255), big.NewInt(19)) }

// toKey is a number's low 32 bytes, the low one first.
func toKey(n *big.Int) api.Key {
	var key api.Key
	new(big.Int).Mod(n, power(256)).FillBytes(key[:])
	slices.Reverse(key[:])
	return key
}

// fromKey is the number of 32 bytes, the low one first, with all its bits.
func fromKey(key api.Key) *big.Int {
	slices.Reverse(key[:])
	return new(big.Int).SetBytes(key[:])
}

// mod is a number modulo p, from 0 on.
func mod(n *big.Int) *big.Int { return new(big.Int).Mod(n, prime()) }

// unhex is the key that a text writes out.
func unhex(t *testing.T, s string) api.Key {
	t.Helper()
	b, err := hex.DecodeString(s)
	if err != nil || len(b) != 32 {
		t.Fatal("the test's own key isn't one", s)
	}
	return api.Key(b)
}

// decimal is the number that a text writes out.
func decimal(t *testing.T, s string) *big.Int {
	t.Helper()
	n, ok := new(big.Int).SetString(s, 10)
	if !ok {
		t.Fatal("the test's own number isn't one", s)
	}
	return n
}

// check holds a number against the one that it should be, by all that tells of it.
func check(t *testing.T, got Elem, want *big.Int, what string, of ...*big.Int) {
	t.Helper()
	want = mod(want)
	if bytes := got.Bytes(); bytes != toKey(want) {
		t.Errorf("%s of %x: bytes %x, not %x", what, of, bytes, toKey(want))
	}
	if got.Odd() != (want.Bit(0) == 1) {
		t.Errorf("%s of %x: odd %v", what, of, got.Odd())
	}
	if got.Zero() != (want.Sign() == 0) {
		t.Errorf("%s of %x: zero %v", what, of, got.Zero())
	}
	if again := Read(toKey(want)); !got.Same(again) || !again.Same(got) || got != again {
		t.Errorf("%s of %x isn't the same as the number of its bytes", what, of)
	}
}

// edges are numbers of 255 bits at which a form in any limbs has its turns: about 0, p,
// halves of it, and each power of 2, with ones and noughts below.
func edges() []*big.Int {
	half := new(big.Int).Rsh(prime(), 1)
	var out []*big.Int
	for off := int64(-40); off <= 40; off++ {
		for _, at := range []*big.Int{new(big.Int), half, prime(), power(255)} {
			out = append(out, new(big.Int).Add(at, big.NewInt(off)))
		}
	}
	for bit := range uint(255) {
		for _, off := range []int64{-19, -1, 0, 1, 19} {
			out = append(out, new(big.Int).Add(power(bit), big.NewInt(off)))
			out = append(out, new(big.Int).Sub(prime(), new(big.Int).Add(power(bit), big.NewInt(off))))
		}
	}
	return slices.DeleteFunc(out, func(n *big.Int) bool { return n.Sign() < 0 || n.BitLen() > 255 })
}

// corners are numbers whose limbs of 51 bits are each at one of their ends: all noughts,
// 1, the highest bit, all ones but the last, all ones.
func corners() []*big.Int {
	ends := []*big.Int{new(big.Int), big.NewInt(1), power(50), new(big.Int).Sub(power(51), big.NewInt(20)), new(big.Int).Sub(power(51), big.NewInt(1))}
	out := []*big.Int{new(big.Int)}
	for range 5 {
		var longer []*big.Int
		for _, n := range out {
			for _, end := range ends {
				longer = append(longer, new(big.Int).Add(new(big.Int).Lsh(n, 51), end))
			}
		}
		out = longer
	}
	return out
}

// drawn is a number of 255 bits whose bytes are often at their least or greatest,
// where carries run far.
func drawn(draw *rand.Rand) *big.Int {
	var key api.Key
	kind := draw.IntN(4)
	for i := range key {
		switch pick := draw.IntN(4); {
		case kind == 0 || pick == 0:
			key[i] = byte(draw.Uint32())
		case kind == 1 || pick == 1:
			key[i] = 0xff
		}
	}
	key[31] &= 0x7f
	return fromKey(key)
}

func TestTheZeroValueIs0(t *testing.T) {
	var zero Elem
	check(t, zero, new(big.Int), "the zero value")
	check(t, Small(0), new(big.Int), "Small")
	if !zero.Same(Small(0)) || !zero.Zero() || zero.Odd() || zero.Bytes() != (api.Key{}) {
		t.Error("the zero value isn't 0")
	}
	five := Small(5)
	check(t, zero.Add(five), big.NewInt(5), "0 and 5")
	check(t, five.Sub(zero), big.NewInt(5), "5 less 0")
	check(t, zero.Sub(five), big.NewInt(-5), "0 less 5")
	check(t, zero.Times(five), new(big.Int), "0 times 5")
	check(t, zero.Square(), new(big.Int), "0 squared")
}

func TestTheExample(t *testing.T) {
	want := unhex(t, "ecffffffffffffffffffffffffffffffffffffffffffffffffffffffffffff7f")
	if got := Small(-1).Bytes(); got != want {
		t.Errorf("Small(-1): %x", got)
	}
}

func TestSmallNumbers(t *testing.T) {
	ints := []int{math.MinInt, math.MinInt + 1, math.MaxInt - 1, math.MaxInt, 121665, -121665, 121666}
	for n := -300; n <= 300; n++ {
		ints = append(ints, n)
	}
	for bit := range 63 {
		ints = append(ints, 1<<bit-1, 1<<bit, 1<<bit+1, -1<<bit-1, -1<<bit, -1<<bit+1)
	}
	for _, n := range ints {
		check(t, Small(n), big.NewInt(int64(n)), "Small", big.NewInt(int64(n)))
	}
}

func TestReadTakesAllBytes(t *testing.T) {
	draw := rand.New(rand.NewPCG(9, 1))
	all := slices.Concat(edges(), corners())
	for range 5000 {
		all = append(all, drawn(draw))
	}
	for _, n := range all {
		check(t, Read(toKey(n)), n, "Read", n)
		// The highest bit is no part of the number.
		check(t, Read(toKey(new(big.Int).Add(n, power(255)))), n, "Read with the highest bit", n)
	}
	for i := range 256 {
		var key api.Key
		key[i/8] = 1 << (i % 8)
		want := power(uint(i))
		if i == 255 {
			want = new(big.Int)
		}
		check(t, Read(key), want, "Read of a bit", power(uint(i)))
	}
}

func TestBytesOfNumbersBeyondP(t *testing.T) {
	// From p to 2^255 - 1 are just 19: each has the bytes of 0 to 18.
	for off := range 19 {
		n := new(big.Int).Add(prime(), big.NewInt(int64(off)))
		if got := Read(toKey(n)).Bytes(); got != (api.Key{0: byte(off)}) {
			t.Errorf("p and %d: %x", off, got)
		}
		if !Read(toKey(n)).Same(Small(off)) {
			t.Errorf("p and %d isn't the same as %d", off, off)
		}
	}
}

func TestStrictTakesWhatIsBelowP(t *testing.T) {
	draw := rand.New(rand.NewPCG(9, 2))
	all := slices.Concat(edges(), corners())
	for range 2000 {
		all = append(all, drawn(draw))
	}
	for _, n := range all {
		got, err := Strict(toKey(n))
		if n.Cmp(prime()) < 0 {
			if err != nil {
				t.Errorf("Strict of %x: %v", n, err)
			}
			check(t, got, n, "Strict", n)
		} else if !errors.Is(err, api.ErrForm) || got != (Elem{}) {
			t.Errorf("Strict of %x, which isn't below p: %x, %v", n, got.Bytes(), err)
		}
		// With the highest bit none is taken, whether the others are below p or not.
		got, err = Strict(toKey(new(big.Int).Add(n, power(255))))
		if !errors.Is(err, api.ErrForm) || got != (Elem{}) {
			t.Errorf("Strict of %x with the highest bit: %x, %v", n, got.Bytes(), err)
		}
	}
}

func TestStrictAboutP(t *testing.T) {
	for _, c := range []struct {
		text  string
		taken bool
	}{
		{"0000000000000000000000000000000000000000000000000000000000000000", true},
		{"0100000000000000000000000000000000000000000000000000000000000000", true},
		{"ed0000000000000000000000000000000000000000000000000000000000007f", true},
		{"ebffffffffffffffffffffffffffffffffffffffffffffffffffffffffffff7f", true},
		{"ecffffffffffffffffffffffffffffffffffffffffffffffffffffffffffff7f", true},
		{"edffffffffffffffffffffffffffffffffffffffffffffffffffffffffffff7e", true},
		{"edfffffffffffffffffffffffffffffffffffffffffffffffffffffffffffe7f", true},
		{"edffffffffffffffffffffffffffffffffffffffffffffffffffffffffffff7f", false},
		{"eeffffffffffffffffffffffffffffffffffffffffffffffffffffffffffff7f", false},
		{"ffffffffffffffffffffffffffffffffffffffffffffffffffffffffffffff7f", false},
		{"0000000000000000000000000000000000000000000000000000000000000080", false},
		{"0100000000000000000000000000000000000000000000000000000000000080", false},
		{"ecffffffffffffffffffffffffffffffffffffffffffffffffffffffffffffff", false},
		{"edffffffffffffffffffffffffffffffffffffffffffffffffffffffffffffff", false},
		{"ffffffffffffffffffffffffffffffffffffffffffffffffffffffffffffffff", false},
	} {
		key := unhex(t, c.text)
		got, err := Strict(key)
		if c.taken && (err != nil || got.Bytes() != key) {
			t.Errorf("Strict of %s: %x, %v", c.text, got.Bytes(), err)
		}
		if !c.taken && (!errors.Is(err, api.ErrForm) || got != (Elem{})) {
			t.Errorf("Strict of %s: %x, %v", c.text, got.Bytes(), err)
		}
	}
}

// checkPair holds the sum, the difference and the product of two numbers against the
// reference.
func checkPair(t *testing.T, a, b *big.Int) {
	t.Helper()
	x, y := Read(toKey(a)), Read(toKey(b))
	check(t, x.Add(y), new(big.Int).Add(a, b), "Add", a, b)
	check(t, x.Sub(y), new(big.Int).Sub(a, b), "Sub", a, b)
	check(t, x.Times(y), new(big.Int).Mul(a, b), "Times", a, b)
	if same := mod(a).Cmp(mod(b)) == 0; x.Same(y) != same || y.Same(x) != same {
		t.Errorf("Same of %x and %x isn't %v", a, b, same)
	}
	// What was handed in is as it was.
	check(t, x, a, "the first", a)
	check(t, y, b, "the second", b)
}

func TestPairsOfEdges(t *testing.T) {
	all := edges()
	draw := rand.New(rand.NewPCG(9, 3))
	for i, a := range all {
		checkPair(t, a, a)
		checkPair(t, a, all[len(all)-1-i])
		for range 20 {
			checkPair(t, a, all[draw.IntN(len(all))])
		}
	}
	about := []*big.Int{}
	for off := int64(-3); off <= 3; off++ {
		about = append(about, mod(big.NewInt(off)), new(big.Int).Add(new(big.Int).Rsh(prime(), 1), big.NewInt(off)))
	}
	for _, a := range about {
		for _, b := range about {
			checkPair(t, a, b)
		}
	}
}

func TestPairsOfCorners(t *testing.T) {
	draw := rand.New(rand.NewPCG(9, 4))
	all := corners()
	for _, a := range all {
		checkPair(t, a, a)
		checkPair(t, a, all[len(all)-1])
		checkPair(t, all[len(all)-1], a)
		for range 5 {
			checkPair(t, a, all[draw.IntN(len(all))])
		}
	}
}

func TestManyPairs(t *testing.T) {
	draw := rand.New(rand.NewPCG(9, 5))
	for range 10000 {
		checkPair(t, drawn(draw), drawn(draw))
	}
}

func TestEveryPairOfBits(t *testing.T) {
	for i := range uint(255) {
		for j := range uint(255) {
			got := Read(toKey(power(i))).Times(Read(toKey(power(j))))
			if want := mod(power(i + j)); got.Bytes() != toKey(want) {
				t.Fatalf("2^%d times 2^%d: %x", i, j, got.Bytes())
			}
		}
	}
}

func TestSquares(t *testing.T) {
	draw := rand.New(rand.NewPCG(9, 6))
	all := slices.Concat(edges(), corners())
	for range 5000 {
		all = append(all, drawn(draw))
	}
	for _, n := range all {
		x := Read(toKey(n))
		check(t, x.Square(), new(big.Int).Mul(n, n), "Square", n)
		check(t, x, n, "what was squared", n)
	}
}

func TestLongWays(t *testing.T) {
	// What one call answers is what the next is handed, so that a form that isn't whole
	// shows further on.
	draw := rand.New(rand.NewPCG(9, 7))
	for range 40 {
		x, y := Read(toKey(drawn(draw))), Read(toKey(drawn(draw)))
		a, b := fromKey(x.Bytes()), fromKey(y.Bytes())
		for range 300 {
			was, wasElem := a, x
			switch draw.IntN(5) {
			case 0:
				x, a = x.Add(y), mod(new(big.Int).Add(a, b))
			case 1:
				x, a = x.Sub(y), mod(new(big.Int).Sub(a, b))
			case 2:
				x, a = y.Sub(x), mod(new(big.Int).Sub(b, a))
			case 3:
				x, a = x.Times(y), mod(new(big.Int).Mul(a, b))
			case 4:
				x, a = x.Square(), mod(new(big.Int).Mul(a, a))
			}
			check(t, x, a, "a step", was, b)
			if draw.IntN(3) == 0 {
				y, b = wasElem, was
			}
		}
	}
}

func TestLaws(t *testing.T) {
	draw := rand.New(rand.NewPCG(9, 8))
	for range 2000 {
		a, b, c := Read(toKey(drawn(draw))), Read(toKey(drawn(draw))), Read(toKey(drawn(draw)))
		for name, pair := range map[string][2]Elem{
			"a sum turned":           {a.Add(b), b.Add(a)},
			"a product turned":       {a.Times(b), b.Times(a)},
			"sums of three":          {a.Add(b).Add(c), a.Add(b.Add(c))},
			"products of three":      {a.Times(b).Times(c), a.Times(b.Times(c))},
			"a product of a sum":     {a.Times(b.Add(c)), a.Times(b).Add(a.Times(c))},
			"there and back":         {a.Add(b).Sub(b), a},
			"a difference turned":    {a.Sub(b), Elem{}.Sub(b.Sub(a))},
			"a square":               {a.Square(), a.Times(a)},
			"two squares' middle":    {a.Add(b).Times(a.Sub(b)), a.Square().Sub(b.Square())},
			"a number less itself":   {a.Sub(a), Elem{}},
			"a number times 1":       {a.Times(Small(1)), a},
			"a number times -1":      {a.Times(Small(-1)), Elem{}.Sub(a)},
			"two divisions in a row": {a.Invert().Times(b.Invert()), a.Times(b).Invert()},
		} {
			if !pair[0].Same(pair[1]) || pair[0].Bytes() != pair[1].Bytes() {
				t.Errorf("%s: %x and %x", name, pair[0].Bytes(), pair[1].Bytes())
			}
		}
	}
}

func TestInverses(t *testing.T) {
	draw := rand.New(rand.NewPCG(9, 9))
	all := append(edges(), corners()[:500]...)
	for range 1000 {
		all = append(all, drawn(draw))
	}
	for _, n := range all {
		x := Read(toKey(n))
		got := x.Invert()
		if mod(n).Sign() == 0 {
			check(t, got, new(big.Int), "Invert of 0", n)
			continue
		}
		check(t, got, new(big.Int).ModInverse(n, prime()), "Invert", n)
		check(t, x.Times(got), big.NewInt(1), "a number times its inverse", n)
		if !got.Invert().Same(x) {
			t.Errorf("the inverse of the inverse of %x isn't itself", n)
		}
	}
}

func TestInversesThatAreKnown(t *testing.T) {
	for n, want := range map[int]Elem{0: Small(0), 1: Small(1), -1: Small(-1)} {
		if got := Small(n).Invert(); !got.Same(want) {
			t.Errorf("the inverse of %d: %x", n, got.Bytes())
		}
	}
	// (p + 1)/2 twice is p + 1.
	check(t, Small(2).Invert(), new(big.Int).Rsh(new(big.Int).Add(prime(), big.NewInt(1)), 1), "Invert of 2")
	// p itself is 0, and so is its inverse.
	if got := Read(toKey(prime())).Invert(); !got.Zero() {
		t.Errorf("the inverse of p: %x", got.Bytes())
	}
}

// hasRoot tells by Euler's criterion whether a number is a square.
func hasRoot(n *big.Int) bool {
	half := new(big.Int).Rsh(prime(), 1)
	return new(big.Int).Exp(mod(n), half, prime()).Cmp(big.NewInt(1)) <= 0
}

// checkRoot holds a number's root against what a root is.
func checkRoot(t *testing.T, n *big.Int) {
	t.Helper()
	x := Read(toKey(n))
	root, is := x.Root()
	if is != hasRoot(n) {
		t.Errorf("Root of %x: %v", n, is)
	}
	if !is {
		if root != (Elem{}) {
			t.Errorf("Root of %x, which has none: %x", n, root.Bytes())
		}
		return
	}
	if r := fromKey(root.Bytes()); mod(new(big.Int).Mul(r, r)).Cmp(mod(n)) != 0 {
		t.Errorf("Root of %x: %x isn't one", n, r)
	}
	if root.Odd() || root.Bytes()[0]&1 == 1 {
		t.Errorf("Root of %x: %x is odd", n, root.Bytes())
	}
	check(t, x, n, "what the root is of", n)
}

func TestRoots(t *testing.T) {
	draw := rand.New(rand.NewPCG(9, 10))
	all := slices.Concat(edges(), corners()[:500])
	for range 1000 {
		all = append(all, drawn(draw))
	}
	for _, n := range all {
		checkRoot(t, n)
		checkRoot(t, mod(new(big.Int).Mul(n, n)))
	}
	with := 0
	for n := range int64(400) {
		checkRoot(t, big.NewInt(n))
		checkRoot(t, mod(big.NewInt(-n)))
		if _, is := Small(int(n)).Root(); is {
			with++
		}
	}
	if with < 150 || with > 250 {
		t.Errorf("of 400 numbers %d have roots", with)
	}
}

func TestRootsOfSquaresAreTheEvenOnes(t *testing.T) {
	draw := rand.New(rand.NewPCG(9, 11))
	for range 1000 {
		x := Read(toKey(drawn(draw)))
		want := x
		if x.Odd() {
			want = Elem{}.Sub(x)
		}
		for _, y := range []Elem{x, Elem{}.Sub(x)} {
			if got, is := y.Square().Root(); !is || !got.Same(want) {
				t.Errorf("the root of the square of %x: %x, %v", y.Bytes(), got.Bytes(), is)
			}
		}
		// 2 has no root, so that twice a square has none.
		if got, is := x.Square().Times(Small(2)).Root(); is != x.Zero() || got != (Elem{}) {
			t.Errorf("twice the square of %x has the root %x", x.Bytes(), got.Bytes())
		}
	}
}

func TestRootsThatAreKnown(t *testing.T) {
	for n, want := range map[int]Elem{0: Small(0), 1: Small(-1), 4: Small(2), 9: Small(-3), 16: Small(4), 25: Small(-5), 1 << 40: Small(1 << 20)} {
		if got, is := Small(n).Root(); !is || !got.Same(want) {
			t.Errorf("the root of %d: %x, %v", n, got.Bytes(), is)
		}
	}
	// 0 may be told by p's bytes too.
	if got, is := Read(toKey(prime())).Root(); !is || got != (Elem{}) {
		t.Errorf("the root of p: %x, %v", got.Bytes(), is)
	}
	for _, n := range []int{2, -2, 7, -7, 8, -8, 18} {
		if got, is := Small(n).Root(); is || got != (Elem{}) {
			t.Errorf("%d has a root: %x", n, got.Bytes())
		}
	}
	// The even root of -1 is 2 to the power (p - 1)/4.
	want := new(big.Int).Exp(big.NewInt(2), new(big.Int).Rsh(prime(), 2), prime())
	got, is := Small(-1).Root()
	if !is {
		t.Error("-1 has no root")
	}
	check(t, got, want, "Root of -1")
}

func TestNumbersMadeOnUnlikeWaysAreTheSame(t *testing.T) {
	for n := -40; n <= 40; n++ {
		want := Small(n)
		above := Read(toKey(mod(big.NewInt(int64(n)))))
		for name, got := range map[string]Elem{
			"bytes":        above,
			"a difference": Small(n + 1000).Sub(Small(1000)),
			"a sum":        Small(n - 1000).Add(Small(1000)),
			"a product":    Small(n).Times(Small(7)).Times(Small(7).Invert()),
			"bytes again":  Read(want.Bytes()),
		} {
			if !got.Same(want) || got.Odd() != want.Odd() || got.Zero() != (n == 0) {
				t.Errorf("%d by %s: %x", n, name, got.Bytes())
			}
		}
		if want.Same(Small(n+1)) || want.Same(Small(n-1)) {
			t.Errorf("%d is the same as its neighbour", n)
		}
	}
}

func TestOneBitParts(t *testing.T) {
	for _, n := range []*big.Int{new(big.Int), big.NewInt(1), mod(big.NewInt(-1)), power(254), new(big.Int).Rsh(prime(), 1)} {
		x := Read(toKey(n))
		for i := range 255 {
			key := toKey(n)
			key[i/8] ^= 1 << (i % 8)
			y := Read(key)
			if mod(fromKey(key)).Cmp(mod(n)) == 0 {
				continue
			}
			if x.Same(y) || y.Same(x) || x.Bytes() == y.Bytes() {
				t.Errorf("%x is the same with another bit %d", n, i)
			}
			if y.Zero() != (mod(fromKey(key)).Sign() == 0) {
				t.Errorf("%x with another bit %d: zero %v", n, i, y.Zero())
			}
		}
	}
}

func TestOdd(t *testing.T) {
	for n := range 100 {
		if Small(n).Odd() != (n%2 == 1) {
			t.Errorf("%d: odd %v", n, Small(n).Odd())
		}
		// p is odd: what is below 0 is turned.
		if n > 0 && Small(-n).Odd() != (n%2 == 0) {
			t.Errorf("-%d: odd %v", n, Small(-n).Odd())
		}
	}
	for off := range 19 {
		if got := Read(toKey(new(big.Int).Add(prime(), big.NewInt(int64(off))))); got.Odd() != (off%2 == 1) || got.Zero() != (off == 0) {
			t.Errorf("p and %d: odd %v, zero %v", off, got.Odd(), got.Zero())
		}
	}
}

func TestPick(t *testing.T) {
	for _, c := range [][2]Elem{{Small(1), Small(2)}, {Small(-1), {}}, {{}, Small(7)}, {BaseX(), BaseY()}, {Small(3), Small(3)}} {
		if got := Pick(true, c[0], c[1]); !got.Same(c[0]) {
			t.Errorf("Pick(true, %x, %x): %x", c[0].Bytes(), c[1].Bytes(), got.Bytes())
		}
		if got := Pick(false, c[0], c[1]); !got.Same(c[1]) {
			t.Errorf("Pick(false, %x, %x): %x", c[0].Bytes(), c[1].Bytes(), got.Bytes())
		}
	}
}

func TestTheCurvesNumbers(t *testing.T) {
	// As the standard (RFC 8032) writes them out.
	check(t, Curve(), decimal(t, "37095705934669439343138083508754565189542113879843219016388785533085940283555"), "Curve")
	check(t, BaseX(), decimal(t, "15112221349535400772501151409588531511454012693041857206046113283949847762202"), "BaseX")
	check(t, BaseY(), decimal(t, "46316835694926478169428394003475163141307993866256225615783033603165251855960"), "BaseY")

	if !Curve().Times(Small(121666)).Same(Small(-121665)) {
		t.Error("Curve isn't -121665/121666")
	}
	if !BaseY().Times(Small(5)).Same(Small(4)) {
		t.Error("BaseY isn't 4/5")
	}
	if BaseX().Odd() {
		t.Error("BaseX is odd")
	}
	xx, yy := BaseX().Square(), BaseY().Square()
	if !yy.Sub(xx).Same(Small(1).Add(Curve().Times(xx).Times(yy))) {
		t.Error("the base point isn't on the curve")
	}
	root, is := yy.Sub(Small(1)).Times(Curve().Times(yy).Add(Small(1)).Invert()).Root()
	if !is || !root.Same(BaseX()) {
		t.Errorf("the x of BaseY: %x, %v", root.Bytes(), is)
	}
	if _, is := Curve().Root(); is {
		t.Error("d has a root")
	}
}

func TestACallKeepsNothingOfOthers(t *testing.T) {
	key := toKey(big.NewInt(1234567))
	x := Read(key)
	strict, err := Strict(key)
	if err != nil {
		t.Fatal(err)
	}
	clear(key[:])
	told := x.Bytes()
	clear(told[:])
	check(t, x, big.NewInt(1234567), "Read")
	check(t, strict, big.NewInt(1234567), "Strict")

	curve := Curve()
	curve = curve.Add(curve)
	if curve.Same(Curve()) {
		t.Error("Curve is changed by who was told it")
	}
	for range 2 {
		check(t, x.Invert().Invert(), big.NewInt(1234567), "Invert of Invert")
	}
}

func BenchmarkTimes(b *testing.B) {
	x, y := BaseX(), BaseY()
	for b.Loop() {
		x = x.Times(y)
	}
}

func BenchmarkAdd(b *testing.B) {
	x, y := BaseX(), BaseY()
	for b.Loop() {
		x = x.Add(y)
	}
}

func BenchmarkInvert(b *testing.B) {
	x := BaseX()
	for b.Loop() {
		x = x.Invert()
	}
}
