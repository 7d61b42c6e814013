package numeric

import (
	"cmp"
	"math/bits"
)

// words is how many words an amount has: the greatest one, a dividend of 45 digits, needs 150 bits.
const words = 3

// amount is a whole number from 0 on, of more than one word, the lowest word first.
type amount [words]uint64

// amountOf returns n without its sign.
func amountOf(n int) amount {
	if n < 0 {
		return amount{-uint64(n)}
	}
	return amount{uint64(n)}
}

func (a amount) plus(b amount) amount {
	var carry uint64
	for i := range words {
		a[i], carry = bits.Add64(a[i], b[i], carry)
	}
	return a
}

// minus takes away an amount that is not above a.
func (a amount) minus(b amount) amount {
	var borrow uint64
	for i := range words {
		a[i], borrow = bits.Sub64(a[i], b[i], borrow)
	}
	return a
}

func (a amount) timesWord(w uint64) amount {
	var over uint64
	for i := range words {
		high, low := bits.Mul64(a[i], w)
		sum, carry := bits.Add64(low, over, 0)
		a[i], over = sum, high+carry
	}
	return a
}

// timesPower multiplies by 10 to the power of n.
func (a amount) timesPower(n int) amount {
	for range n {
		a = a.timesWord(10)
	}
	return a
}

func (a amount) compare(b amount) int {
	for i := range words {
		at := words - 1 - i
		if a[at] != b[at] {
			return cmp.Compare(a[at], b[at])
		}
	}
	return 0
}

// length is the number of bits from the lowest one up to the highest one that is not 0.
func (a amount) length() int {
	for i := range words {
		at := words - 1 - i
		if a[at] != 0 {
			return 64*at + bits.Len64(a[at])
		}
	}
	return 0
}

// divided returns the whole quotient, and what is left. b is not 0.
func (a amount) divided(b amount) (quotient, rest amount) {
	if b.length() <= 64 {
		return a.dividedByWord(b[0])
	}
	length := a.length()
	for i := range length {
		at := length - 1 - i
		rest = rest.plus(rest)
		rest[0] |= a[at/64] >> (at % 64) & 1
		quotient = quotient.plus(quotient)
		if rest.compare(b) >= 0 {
			rest = rest.minus(b)
			quotient[0] |= 1
		}
	}
	return quotient, rest
}

func (a amount) dividedByWord(w uint64) (quotient, rest amount) {
	for i := range words {
		at := words - 1 - i
		quotient[at], rest[0] = bits.Div64(rest[0], a[at], w)
	}
	return quotient, rest
}
