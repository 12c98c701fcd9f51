package points

import (
	"fellowship/api"
	"fellowship/field"
)

const (
	// A number is walked by digits of four bits: a table of so few multiples spares
	// three sums of four.
	digitBits = 4
	radix     = 1 << digitBits
	perByte   = 2
	digits    = 64
)

// share is a point's multiples by each digit, and how many times the point is wanted.
type share struct {
	multiples [radix]Point
	times     api.Key
}

// many is the share of a point so many times.
func many(p Point, times api.Key) share {
	one := share{times: times}
	one.multiples[0] = Zero()
	for i := 1; i < radix; i++ {
		one.multiples[i] = one.multiples[i-1].Add(p)
	}
	return one
}

// of is the multiple that digit i of the number tells, from the low one, 0, on.
func (one *share) of(i int) Point {
	digit := one.times[i/perByte] >> (i % perByte * digitBits) % radix
	return one.multiples[digit]
}

// sum is all shares together: what the digits tell so far is taken radix times, ahead
// of each further digit. The number isn't brought below the base point's order l first,
// as some points have an order that l is no multiple of.
func sum(shares ...share) Point {
	all := Zero()
	i := digits
down:
	if i > 0 {
		i--
		all = all.byRadix()
		for j := range shares {
			all = all.Add(shares[j].of(i))
		}
		goto down
	}
	return all
}

// byRadix is a point radix times.
func (p Point) byRadix() Point {
	for range digitBits {
		p = p.twice()
	}
	return p
}

// twice is a point and itself. As it's on the curve, its sum's law comes to less.
func (p Point) twice() Point {
	xx, yy, zz := p.x.Square(), p.y.Square(), p.z.Square()
	xy := p.x.Times(p.y)
	less := yy.Sub(xx)
	return quotients(xy.Add(xy), less, yy.Add(xx), zz.Add(zz).Sub(less))
}

// quotients is the point whose x is a/b, and whose y is c/d.
func quotients(a, b, c, d field.Elem) Point {
	return Point{a.Times(d), c.Times(b), b.Times(d)}
}
