package numeric_test

import (
	"math"
	"math/big"
	"strings"
	"testing"

	"midrange/api"
	"midrange/numeric"
)

// P1.5: a right value is what its bytes are read as.
func TestBackFromBytes(t *testing.T) {
	q := &sequence{5}
	for _, x := range numericTypes() {
		most := power(x.Length) - 1
		l := []int{0, 1, -1, most, -most, most / 2, most / 7, -most / 3}
		for range 20 {
			n := q.amountWith(x.Length)
			l = append(l, n, -n)
		}
		for _, n := range l {
			s, e := numeric.Encode(x, api.Value{N: n})
			size, _ := numeric.SizeOf(x)
			if e != api.OK || len(s) != size {
				t.Errorf("Encode(%v, %d): % x, %v", x, n, s, e)
			}
			if v, at, e := numeric.Decode(x, s); v != (api.Value{N: n}) || at != 0 || e != api.OK {
				t.Errorf("Decode(%v, % x): %v, %d, %v, not %d", x, s, v, at, e, n)
			}
		}
	}
	for _, s := range []string{"a", "\x00\xff\x80 ", strings.Repeat("z", 256)} {
		got, e := numeric.Encode(char(len(s)), api.Value{S: s})
		if got != s || e != api.OK {
			t.Errorf("Encode(%q): %q, %v", s, got, e)
		}
		if v, at, e := numeric.Decode(char(len(s)), got); v != (api.Value{S: s}) || at != 0 || e != api.OK {
			t.Errorf("Decode(%q): %v, %d, %v", got, v, at, e)
		}
	}
}

// P1.5: bytes that are read and written again are read as the same value.
func TestBackFromRead(t *testing.T) {
	for _, x := range []api.DataType{packed(3, 1), packed(2, 0), zoned(2, 2), binary(4, 1)} {
		for i := range 1 << 16 {
			v, _, e := numeric.Decode(x, string([]byte{byte(i >> 8), byte(i)}))
			if e != api.OK {
				continue
			}
			s, e := numeric.Encode(x, v)
			if w, at, f := numeric.Decode(x, s); w != v || at != 0 || e != api.OK || f != api.OK {
				t.Fatalf("%v, %04x: %v, then %v, %v, %v", x, i, v, w, e, f)
			}
		}
	}
}

// P1.5: a number is what its text is read as.
func TestBackFromText(t *testing.T) {
	q := &sequence{6}
	for range 20000 {
		x := q.number()
		s, e := numeric.FormatNumber(x)
		if y, n, f := numeric.ParseNumber(s); y != x || n != len(s) || e != api.OK || f != api.OK {
			t.Errorf("%v: %q, %v; %v, %d, %v", x, s, e, y, n, f)
		}
	}
}

// P1.6: the bytes of zoned values that are not below 0 have the order of the values.
func TestBytesInOrder(t *testing.T) {
	x := zoned(3, 1)
	before := ""
	for n := range 1000 {
		s, e := numeric.Encode(x, api.Value{N: n})
		if e != api.OK || s <= before {
			t.Fatalf("Encode(%d): % x, %v behind % x", n, s, e, before)
		}
		before = s
	}
	q := &sequence{7}
	for range 2000 {
		a, b := q.amountWith(15), q.amountWith(15)
		s, _ := numeric.Encode(zoned(15, 4), api.Value{N: a})
		r, _ := numeric.Encode(zoned(15, 4), api.Value{N: b})
		if len(s) != 15 || (a < b) != (s < r) || (a == b) != (s == r) {
			t.Errorf("%d and %d: % x and % x", a, b, s, r)
		}
	}
}

// P1.6: numbers that are put into one type keep their order.
func TestNumbersInOrder(t *testing.T) {
	q := &sequence{8}
	seen := 0
	for range 20000 {
		a, b := q.number(), q.number()
		if q.below(2) == 0 { // near ones
			b = api.Number{N: max(min(a.N+q.below(21)-10, api.MaxNumber), -api.MaxNumber), Scale: a.Scale}
		}
		to, half := zoned(15, q.below(8)), q.below(2) == 0
		v, e := numeric.Converted(a, to, half)
		w, f := numeric.Converted(b, to, half)
		order, _ := numeric.Compared(a, b)
		if e != api.OK || f != api.OK {
			continue
		}
		seen++
		if order < 0 && v.N > w.N || order > 0 && v.N < w.N || order == 0 && v != w {
			t.Errorf("%v and %v in %v: %v and %v", a, b, to, v, w)
		}
	}
	if seen < 1000 {
		t.Errorf("only %d pairs fit", seen)
	}
}

// P1.7: sums and products do not depend on the order of the operands.
func TestOrderOfOperands(t *testing.T) {
	q := &sequence{9}
	for range 10000 {
		a, b, to, half := q.number(), q.number(), zoned(15, q.below(16)), q.below(2) == 0
		for _, op := range []int{api.NumericAdd, api.NumericMul} {
			v, e := numeric.Calculated(op, a, b, to, half)
			if w, f := numeric.Calculated(op, b, a, to, half); v != w || e != f {
				t.Errorf("%d of %v and %v in %v: %v, %v and %v, %v", op, a, b, to, v, e, w, f)
			}
		}
	}
}

// P1.7: of a sum, from which one operand is taken away, the other one is left.
func TestSumLessOperand(t *testing.T) {
	q := &sequence{10}
	seen := 0
	for range 20000 {
		scale := q.below(15)
		to := zoned(15, scale)
		a, b := api.Number{N: q.amountWith(15), Scale: q.below(scale + 1)}, api.Number{N: -q.amountWith(15), Scale: q.below(scale + 1)}
		sum, e := numeric.Calculated(api.NumericAdd, a, b, to, false)
		left, f := numeric.Converted(b, to, false)
		if e != api.OK || f != api.OK {
			continue
		}
		seen++
		if v, e := numeric.Calculated(api.NumericSub, api.Number{N: sum.N, Scale: scale}, a, to, false); v != left || e != api.OK {
			t.Errorf("%v plus %v in %v: %v; less the first one %v, %v", a, b, to, sum, v, e)
		}
	}
	if seen < 1000 {
		t.Errorf("only %d sums fit", seen)
	}
}

// P1.7: the whole quotient times the divisor, and the remainder, make the dividend.
func TestQuotientAndRemainder(t *testing.T) {
	q := &sequence{11}
	seen := 0
	for range 20000 {
		a, b := q.number(), q.number()
		quotient, e := numeric.Calculated(api.NumericDiv, a, b, zoned(15, 0), false)
		rest, f := numeric.Calculated(api.NumericRem, a, b, zoned(15, max(a.Scale, b.Scale)), false)
		if e != api.OK || f != api.OK {
			continue
		}
		seen++
		back := exactly(b)
		back.Mul(back, exactly(api.Number{N: quotient.N}))
		back.Add(back, exactly(api.Number{N: rest.N, Scale: max(a.Scale, b.Scale)}))
		if back.Cmp(exactly(a)) != 0 {
			t.Errorf("%v by %v: %v, and %v are left", a, b, quotient, rest)
		}
		if rest.N != 0 && (rest.N < 0) != (a.N < 0) {
			t.Errorf("%v by %v: the remainder %v has another sign", a, b, rest)
		}
	}
	if seen < 1000 {
		t.Errorf("only %d quotients fit", seen)
	}
}

// P1.8: what is put into a type is near the number.
func TestNear(t *testing.T) {
	q := &sequence{12}
	seen := 0
	for range 30000 {
		x, to, half := q.number(), zoned(15, q.below(16)), q.below(2) == 0
		v, e := numeric.Converted(x, to, half)
		if e != api.OK {
			continue
		}
		seen++
		gap := exactly(api.Number{N: v.N, Scale: to.Scale})
		gap.Sub(gap, exactly(x)).Abs(gap)
		limit := big.NewRat(1, int64(power(to.Scale)))
		if half {
			limit.Mul(limit, big.NewRat(1, 2))
		}
		if c := gap.Cmp(limit); c > 0 || c == 0 && !half {
			t.Errorf("Converted(%v, %v, %v): %v", x, to, half, v)
		}
	}
	if seen < 1000 {
		t.Errorf("only %d numbers fit", seen)
	}
}

// R1, R2: every call returns, and beside an error there is nothing else.
func TestEveryCallReturns(t *testing.T) {
	edges := []int{math.MinInt, -1, 0, 1, 4, 9, 15, 16, 257, math.MaxInt}
	for _, kind := range edges {
		for _, length := range edges {
			for _, scale := range edges {
				x := api.DataType{Kind: kind, Length: length, Scale: scale}
				for _, n := range edges {
					callAll(t, x, n)
				}
			}
		}
	}
}

func callAll(t *testing.T, x api.DataType, n int) {
	number := api.Number{N: n, Scale: x.Scale}
	if v, e := numeric.Converted(number, x, true); e != api.OK && v != (api.Value{}) {
		t.Errorf("Converted(%v, %v): %v, %v", number, x, v, e)
	}
	for op := range api.NumericOps {
		if v, e := numeric.Calculated(op, number, number, x, true); e != api.OK && v != (api.Value{}) {
			t.Errorf("Calculated(%d, %v, %v): %v, %v", op, number, x, v, e)
		}
	}
	if s, e := numeric.Encode(x, api.Value{N: n}); (e == api.OK) == (s == "") {
		t.Errorf("Encode(%v, %d): %q, %v", x, n, s, e)
	}
	for _, s := range []string{"", "\xff", "\x00\x00", "\x80\x00\x00\x00", "\xff\xff\xff\xff"} {
		if v, _, e := numeric.Decode(x, s); e != api.OK && v != (api.Value{}) {
			t.Errorf("Decode(%v, %q): %v, %v", x, s, v, e)
		}
		if r, _, e := numeric.Copied(operand(x, s), x, true); e != api.OK && r != "" {
			t.Errorf("Copied(%v, %q): %q, %v", x, s, r, e)
		}
		if r, _, e := numeric.CalculatedBytes(n, operand(x, s), operand(x, s), x, true); e != api.OK && r != "" {
			t.Errorf("CalculatedBytes(%d, %v, %q): %q, %v", n, x, s, r, e)
		}
	}
}
