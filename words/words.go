// Package words is layer 1: see shared/doc/01-words.md.
package words

import "fellowship/api"

// wordBytes is how many bytes the longest word has.
const wordBytes = 8

// Left turns a word to the left.
func Left(x uint32, n int) uint32 {
	// The low bits alone are n modulo 32 from 0 on, of numbers below 0 too.
	by := uint(n) & 31
	return x<<by | x>>(32-by)
}

// Right turns a word to the right.
func Right(x uint32, n int) uint32 {
	by := uint(n) & 31
	return x>>by | x<<(32-by)
}

// Right64 turns a long word to the right.
func Right64(x uint64, n int) uint64 {
	by := uint(n) & 63
	return x>>by | x<<(64-by)
}

// Big is the number of bytes, the high one first.
func Big(b []byte) (uint64, error) {
	if len(b) > wordBytes {
		return 0, api.ErrLong
	}
	var x uint64
	for _, c := range b {
		x = x<<8 | uint64(c)
	}
	return x, nil
}

// Little is the number of bytes, the low one first.
func Little(b []byte) (uint64, error) {
	if len(b) > wordBytes {
		return 0, api.ErrLong
	}
	var x uint64
	for i, c := range b {
		x |= uint64(c) << (8 * i)
	}
	return x, nil
}

// PutBig is a number's bytes, the high one first.
func PutBig(x uint64, n int) ([]byte, error) {
	if n < 0 || n > wordBytes {
		return nil, api.ErrRange
	}
	b := make([]byte, n)
	for i := range b {
		b[i] = byte(x >> (8 * (n - 1 - i)))
	}
	return b, nil
}

// PutLittle is a number's bytes, the low one first.
func PutLittle(x uint64, n int) ([]byte, error) {
	if n < 0 || n > wordBytes {
		return nil, api.ErrRange
	}
	b := make([]byte, n)
	for i := range b {
		b[i] = byte(x >> (8 * i))
	}
	return b, nil
}

// Equal tells whether rows are the same.
func Equal(a, b []byte) bool {
	if len(a) != len(b) {
		return false
	}
	var parted byte
	i := 0
	// A jump back is the walk's only turn: there is no way out of it ahead of
	// the last byte, wherever the rows part.
next:
	if i < len(a) {
		parted |= a[i] ^ b[i]
		i++
		goto next
	}
	return parted == 0
}

// Mix is the exclusive or of rows.
func Mix(a, b []byte) ([]byte, error) {
	if len(a) != len(b) {
		return nil, api.ErrForm
	}
	mixed := make([]byte, len(a))
	for i := range mixed {
		mixed[i] = a[i] ^ b[i]
	}
	return mixed, nil
}

// Pick picks one of two.
func Pick(yes bool, a, b uint64) uint64 {
	if yes {
		return a
	}
	return b
}

// Zero tells whether all bytes are 0.
func Zero(b []byte) bool {
	var seen byte
	i := 0
	// As in Equal: no way out ahead of the last byte.
next:
	if i < len(b) {
		seen |= b[i]
		i++
		goto next
	}
	return seen == 0
}
