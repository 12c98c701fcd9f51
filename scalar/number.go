package scalar

import (
	"fellowship/api"
	"fellowship/words"
)

const (
	keyBytes = 32

	// Limbs are half a word, so that a product of two has room in one, with two more
	// of them beside it.
	limbs     = 8
	limbBits  = 32
	limbBytes = 4
	limbMask  = 1<<limbBits - 1

	// l's highest bit is bit 252: that one and those beyond it are a number's top, of
	// which the last limb has topLimbBits.
	topLimbBits = 4
	restBits    = limbBits - topLimbBits
	restMask    = 1<<restBits - 1
)

// number is limbs, the low one first, of no more than their bits. It is an array, so
// that a function works on one of its own.
type number [limbs]uint64

// row is a number with room for a product.
type row [2 * limbs]uint64

// order is l.
var order = number{0x5cf5d3ed, 0x5812631a, 0xa2f79cd6, 0x14def9de, 0, 0, 0, 0x10000000}

// tail is l less 2^252.
var tail = number{0x5cf5d3ed, 0x5812631a, 0xa2f79cd6, 0x14def9de}

// read is the number of a key.
func read(k api.Key) number {
	var n number
	for i := range limbs {
		// A limb is never too long, so that the error has nothing to tell.
		n[i], _ = words.Little(k[limbBytes*i : limbBytes*(i+1)])
	}
	return n
}

// written is a number's bytes.
func written(n number) api.Key {
	var k api.Key
	for i, limb := range n {
		// As for read: the error has nothing to tell.
		b, _ := words.PutLittle(limb, limbBytes)
		copy(k[limbBytes*i:], b)
	}
	return k
}

// beside is a number of two halves.
func beside(low, high number) row {
	var r row
	copy(r[:limbs], low[:])
	copy(r[limbs:], high[:])
	return r
}

// modulo is a row's rest modulo l: limb by limb from the high one down, as one divides
// by hand.
func modulo(r row) number {
	var n number
	i := len(r)
down:
	if i > 0 {
		i--
		n = next(n, r[i])
		goto down
	}
	return n
}

// next is the rest modulo l of a number below l with one limb more ahead of its first.
func next(n number, limb uint64) number {
	// Of all this, which is top times 2^252 and rest, top times l is taken away: what
	// stays is rest less top times the tail. It may be below 0, but less far than l, as
	// top is 2^32 at most and the tail below 2^125.
	top := n[limbs-1]<<topLimbBits | n[limbs-2]>>restBits
	rest := number{limb}
	copy(rest[1:], n[:])
	rest[limbs-1] &= restMask
	return less(rest, scaled(tail, top))
}

// plus is a sum modulo 2^256.
func plus(a, b number) number {
	var over uint64
	for i := range limbs {
		sum := a[i] + b[i] + over
		a[i], over = sum&limbMask, sum>>limbBits
	}
	return a
}

// minus is a difference modulo 2^256, and whether it is below 0.
func minus(a, b number) (number, bool) {
	var under uint64
	for i := range limbs {
		// Below 0 the word wraps round, and has ones in all bits beyond the limb's.
		left := a[i] - b[i] - under
		a[i], under = left&limbMask, left>>limbBits&1
	}
	return a, under == 1
}

// less is the difference modulo l of numbers that are less far than l from one another.
func less(a, b number) number {
	left, below := minus(a, b)
	if below {
		return plus(left, order)
	}
	return left
}

// scaled is a number so many times, which may be 2^32 at most. The caller has seen to
// it that the product is below 2^256.
func scaled(n number, times uint64) number {
	var over uint64
	for i := range limbs {
		sum := n[i]*times + over
		n[i], over = sum&limbMask, sum>>limbBits
	}
	return n
}

// product is a product, as one multiplies by hand.
func product(a, b number) row {
	var r row
	for i := range limbs {
		var over uint64
		for j := range limbs {
			sum := r[i+j] + a[i]*b[j] + over
			r[i+j], over = sum&limbMask, sum>>limbBits
		}
		r[i+limbs] = over
	}
	return r
}
