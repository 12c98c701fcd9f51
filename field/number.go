package field

import (
	"math/bits"

	"fellowship/api"
	"fellowship/words"
)

const (
	// Five limbs are the 255 bits of p. They leave so much of their words free that
	// sums need no carry on the way.
	limbs    = 5
	limbBits = 51
	limbMask = 1<<limbBits - 1

	// fold is what 2^255 is modulo p.
	fold = 19

	keyWords  = 4
	wordBytes = 8
	wordBits  = 64

	// The limbs of twice p, each of them greater than any limb's bits.
	twiceFirst = 2 * (limbMask + 1 - fold)
	twiceOther = 2 * limbMask
)

// number is limbs, the low one first, which may be greater than their bits for a
// while. It is an array, so that a function works on one of its own.
type number [limbs]uint64

// curve is -121665/121666.
var curve = number{0x34dca135978a3, 0x1a8283b156ebd, 0x5e7a26001c029, 0x739c663a03cbb, 0x52036cee2b6ff}

// baseX is the even x of the curve's points whose y is 4/5.
var baseX = number{0x62d608f25d51a, 0x412a4b4f6592a, 0x75b7171a4b31d, 0x1ff60527118fe, 0x216936d3cd6e5}

// baseY is 4/5.
var baseY = number{0x6666666666658, 0x4cccccccccccc, 0x1999999999999, 0x3333333333333, 0x6666666666666}

// turn is a root of -1: 2 to the power (p - 1)/4.
var turn = number{0x61b274a0ea0b0, 0x0d5a5fc8f189d, 0x7ef5e9cbd0c60, 0x78595a6804c9e, 0x2b8324804fc1d}

// wide is a sum of products, which one word has no room for.
type wide struct{ high, low uint64 }

// read is the number of a key's low 255 bits.
func read(b api.Key) number {
	// The last limb ends in the last word: a nought stands behind that one.
	var row [keyWords + 1]uint64
	for i := range keyWords {
		// A word is never too long, so that the error has nothing to tell.
		row[i], _ = words.Little(b[wordBytes*i : wordBytes*(i+1)])
	}
	var n number
	for i := range limbs {
		at := i * limbBits
		word, off := at/wordBits, at%wordBits
		n[i] = (row[word]>>off | row[word+1]<<(wordBits-off)) & limbMask
	}
	return n
}

// written is a number's bytes. Its limbs have no more than their bits.
func written(n number) api.Key {
	var b api.Key
	for i := range keyWords {
		at := i * wordBits
		limb, off := at/limbBits, at%limbBits
		x := n[limb]>>off | n[limb+1]<<(limbBits-off)
		// As for read: the error has nothing to tell.
		row, _ := words.PutLittle(x, wordBytes)
		copy(b[wordBytes*i:], row)
	}
	return b
}

// plus is the sum of two numbers, limb by limb.
func plus(a, b number) number {
	for i := range limbs {
		a[i] += b[i]
	}
	return a
}

// minus is the difference of two numbers, limb by limb, with twice p beside it, so
// that no limb falls below 0.
func minus(a, b number) number {
	a[0] += twiceFirst - b[0]
	for i := 1; i < limbs; i++ {
		a[i] += twiceOther - b[i]
	}
	return a
}

// product is a product, with what is beyond 2^255 folded back. As no limb has more than
// its bits, no sum passes 2^109, and no limb of the answer 2^58.
func product(a, b number) number {
	b1, b2, b3, b4 := fold*b[1], fold*b[2], fold*b[3], fold*b[4]
	return narrow(
		wide{}.plus(a[0], b[0]).plus(a[1], b4).plus(a[2], b3).plus(a[3], b2).plus(a[4], b1),
		wide{}.plus(a[0], b[1]).plus(a[1], b[0]).plus(a[2], b4).plus(a[3], b3).plus(a[4], b2),
		wide{}.plus(a[0], b[2]).plus(a[1], b[1]).plus(a[2], b[0]).plus(a[3], b4).plus(a[4], b3),
		wide{}.plus(a[0], b[3]).plus(a[1], b[2]).plus(a[2], b[1]).plus(a[3], b[0]).plus(a[4], b4),
		wide{}.plus(a[0], b[4]).plus(a[1], b[3]).plus(a[2], b[2]).plus(a[3], b[1]).plus(a[4], b[0]),
	)
}

// plus is a sum with one product more.
func (w wide) plus(a, b uint64) wide {
	high, low := bits.Mul64(a, b)
	low, over := bits.Add64(low, w.low, 0)
	high, _ = bits.Add64(high, w.high, over)
	return wide{high, low}
}

// split is a sum's bits of a limb's length, and those beyond them.
func (w wide) split() (limb, over uint64) {
	return w.low & limbMask, w.high<<(wordBits-limbBits) | w.low>>limbBits
}

// narrow is the number whose limbs are such sums.
func narrow(s0, s1, s2, s3, s4 wide) number {
	n0, o0 := s0.split()
	n1, o1 := s1.split()
	n2, o2 := s2.split()
	n3, o3 := s3.split()
	n4, o4 := s4.split()
	return number{n0 + fold*o4, n1 + o0, n2 + o1, n3 + o2, n4 + o3}
}

// carried is five limbs with each one's bits beyond its own handed to the next one,
// and what is beyond the last one. They come as words and not as a number, which is
// faster: every sum and every product ends here.
func carried(a, b, c, d, e uint64) (uint64, uint64, uint64, uint64, uint64, uint64) {
	b += a >> limbBits
	c += b >> limbBits
	d += c >> limbBits
	e += d >> limbBits
	return a & limbMask, b & limbMask, c & limbMask, d & limbMask, e & limbMask, e >> limbBits
}

// least is a number's rest modulo p, of limbs up to 2^59. Behind a fold it is so little
// beyond 2^255 that p is in it once at most: if and only if 19 more reach 2^255.
func least(n number) number {
	a, b, c, d, e, over := carried(n[0], n[1], n[2], n[3], n[4])
	a += fold * over
	_, _, _, _, _, over = carried(a+fold, b, c, d, e)
	a, b, c, d, e, _ = carried(a+fold*over, b, c, d, e)
	return number{a, b, c, d, e}
}
