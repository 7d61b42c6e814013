package numeric_test

import (
	"math"
	"math/big"
	"strings"
	"testing"

	"midrange/api"
	"midrange/numeric"
)

// sequence makes numbers that look like random ones, the same in each run.
type sequence struct{ state uint64 }

func (q *sequence) below(n int) int {
	q.state = q.state*6364136223846793005 + 1442695040888963407
	return int(q.state>>33) % n
}

// amountWith returns a number with at most so many digits; short ones, zeros and nines are frequent.
func (q *sequence) amountWith(digits int) int {
	most := power(digits) - 1
	n := 0
	switch q.below(8) {
	case 0:
		n = q.below(3)
	case 1:
		n = most - q.below(2)
	case 2:
		n = 5 * power(q.below(digits))
	default:
		for range 1 + q.below(digits) {
			n = 10*n + q.below(10)
		}
	}
	return max(min(n, most), 0)
}

func (q *sequence) number() api.Number {
	n := q.amountWith(api.MaxDigits)
	if q.below(2) == 0 {
		n = -n
	}
	return api.Number{N: n, Scale: q.below(api.MaxScale + 1)}
}

// exactly is a number as a fraction.
func exactly(x api.Number) *big.Rat {
	return big.NewRat(int64(x.N), int64(power(x.Scale)))
}

// whole cuts a fraction off towards 0.
func whole(x *big.Rat) *big.Int {
	return new(big.Int).Quo(x.Num(), x.Denom())
}

// resultBy computes an operation with fractions; nil is division by 0.
func resultBy(op int, a, b api.Number) *big.Rat {
	x, y := exactly(a), exactly(b)
	switch op {
	case api.NumericAdd:
		return x.Add(x, y)
	case api.NumericSub:
		return x.Sub(x, y)
	case api.NumericMul:
		return x.Mul(x, y)
	}
	if b.N == 0 {
		return nil
	}
	quotient := new(big.Rat).Quo(x, y)
	if op == api.NumericDiv {
		return quotient
	}
	return x.Sub(x, y.Mul(y, new(big.Rat).SetInt(whole(quotient))))
}

// putBy puts a fraction into a type.
func putBy(x *big.Rat, t api.DataType, half bool) (api.Value, api.Errno) {
	y := new(big.Rat).Mul(x, big.NewRat(int64(power(t.Scale)), 1))
	if half {
		y.Add(y, big.NewRat(int64(y.Sign()), 2))
	}
	n := whole(y)
	if new(big.Int).Abs(n).Cmp(big.NewInt(int64(power(t.Length)))) >= 0 {
		return api.Value{}, api.ErrOverflow
	}
	return api.Value{N: int(n.Int64())}, api.OK
}

var wrongNumbers = []api.Number{{N: api.MaxNumber + 1}, {N: -api.MaxNumber - 1}, {N: 1, Scale: -1}, {N: 1, Scale: api.MaxScale + 1}, {N: math.MinInt}, {N: math.MaxInt, Scale: math.MaxInt}, {Scale: math.MinInt}}

// P1.3: the ranges of numbers.
func TestCheckNumber(t *testing.T) {
	for _, x := range []api.Number{{}, {N: api.MaxNumber, Scale: api.MaxScale}, {N: -api.MaxNumber}, {N: 1, Scale: 15}} {
		if e := numeric.CheckNumber(x); e != api.OK {
			t.Errorf("CheckNumber(%v): %v", x, e)
		}
	}
	for _, x := range wrongNumbers {
		if e := numeric.CheckNumber(x); e != api.ErrRange {
			t.Errorf("CheckNumber(%v): %v", x, e)
		}
		if s, e := numeric.FormatNumber(x); s != "" || e != api.ErrRange {
			t.Errorf("FormatNumber(%v): %q, %v", x, s, e)
		}
		if n, e := numeric.Compared(x, api.Number{}); n != 0 || e != api.ErrRange {
			t.Errorf("Compared(%v, 0): %d, %v", x, n, e)
		}
		if n, e := numeric.Compared(api.Number{N: 1}, x); n != 0 || e != api.ErrRange {
			t.Errorf("Compared(1, %v): %d, %v", x, n, e)
		}
	}
}

// P1.3: numbers of any scales are compared exactly.
func TestCompared(t *testing.T) {
	for _, x := range []struct {
		a, b api.Number
		n    int
	}{
		{api.Number{N: 50, Scale: 1}, api.Number{N: 5}, 0}, {api.Number{N: 51, Scale: 1}, api.Number{N: 5}, 1}, {api.Number{N: 49, Scale: 1}, api.Number{N: 5}, -1},
		{api.Number{Scale: 15}, api.Number{}, 0}, {api.Number{N: -1, Scale: 15}, api.Number{}, -1}, {api.Number{}, api.Number{N: -1, Scale: 15}, 1}, {api.Number{N: -5}, api.Number{N: 5}, -1}, {api.Number{N: -5}, api.Number{N: -50, Scale: 1}, 0}, {api.Number{N: -6}, api.Number{N: -5}, -1},
		{api.Number{N: api.MaxNumber}, api.Number{N: api.MaxNumber, Scale: 15}, 1}, {api.Number{N: -api.MaxNumber}, api.Number{N: api.MaxNumber, Scale: 15}, -1}, {api.Number{N: api.MaxNumber, Scale: 15}, api.Number{N: 1}, -1}, {api.Number{N: 100000000000000, Scale: 14}, api.Number{N: 1}, 0},
	} {
		if n, e := numeric.Compared(x.a, x.b); n != x.n || e != api.OK {
			t.Errorf("Compared(%v, %v): %d, %v", x.a, x.b, n, e)
		}
		if n, e := numeric.Compared(x.b, x.a); n != -x.n || e != api.OK {
			t.Errorf("Compared(%v, %v): %d, %v", x.b, x.a, n, e)
		}
	}
	q := &sequence{1}
	for range 5000 {
		a, b := q.number(), q.number()
		if n, e := numeric.Compared(a, b); n != exactly(a).Cmp(exactly(b)) || e != api.OK {
			t.Errorf("Compared(%v, %v): %d, %v", a, b, n, e)
		}
	}
}

// P1.3: numbers put into types, cut off and half-adjusted.
func TestConverted(t *testing.T) {
	for _, x := range []struct {
		x       api.Number
		t       api.DataType
		cut, up int
	}{
		{api.Number{N: 5, Scale: 1}, packed(1, 0), 0, 1}, {api.Number{N: -5, Scale: 1}, packed(1, 0), 0, -1}, {api.Number{N: 49, Scale: 2}, packed(1, 0), 0, 0}, {api.Number{N: -49, Scale: 2}, packed(1, 0), 0, 0},
		{api.Number{N: 15, Scale: 1}, zoned(2, 0), 1, 2}, {api.Number{N: 25, Scale: 1}, zoned(2, 0), 2, 3}, {api.Number{N: -25, Scale: 1}, zoned(2, 0), -2, -3}, {api.Number{N: 149, Scale: 2}, zoned(2, 1), 14, 15},
		{api.Number{N: 12}, binary(4, 2), 1200, 1200}, {api.Number{N: -12, Scale: 1}, binary(9, 3), -1200, -1200}, {api.Number{N: 99, Scale: 2}, packed(2, 2), 99, 99}, {api.Number{N: 994, Scale: 3}, packed(2, 2), 99, 99},
		{api.Number{N: api.MaxNumber}, zoned(15, 0), api.MaxNumber, api.MaxNumber}, {api.Number{N: api.MaxNumber, Scale: 15}, zoned(1, 0), 0, 1}, {api.Number{N: 1, Scale: 15}, packed(15, 15), 1, 1},
	} {
		if v, e := numeric.Converted(x.x, x.t, false); v != (api.Value{N: x.cut}) || e != api.OK {
			t.Errorf("Converted(%v, %v) cut off: %v, %v", x.x, x.t, v, e)
		}
		if v, e := numeric.Converted(x.x, x.t, true); v != (api.Value{N: x.up}) || e != api.OK {
			t.Errorf("Converted(%v, %v) half-adjusted: %v, %v", x.x, x.t, v, e)
		}
	}
	q := &sequence{2}
	for range 20 {
		for _, to := range numericTypes() {
			x, half := q.number(), q.below(2) == 0
			v, e := numeric.Converted(x, to, half)
			if w, f := putBy(exactly(x), to, half); v != w || e != f {
				t.Errorf("Converted(%v, %v, %v): %v, %v, not %v, %v", x, to, half, v, e, w, f)
			}
		}
	}
}

// P1.3: the errors of Converted, the first one first.
func TestConvertedErrors(t *testing.T) {
	wrong := api.Number{N: api.MaxNumber + 1}
	for _, x := range []struct {
		x    api.Number
		t    api.DataType
		half bool
		e    api.Errno
	}{
		{wrong, packed(16, 0), false, api.ErrRange}, {wrong, char(1), false, api.ErrRange}, {api.Number{}, packed(16, 0), false, api.ErrLength}, {api.Number{}, packed(2, 3), false, api.ErrRange}, {api.Number{}, api.DataType{Kind: -1}, false, api.ErrKind}, {api.Number{}, char(0), false, api.ErrLength},
		{api.Number{}, char(5), false, api.ErrType}, {api.Number{N: 100000}, char(5), false, api.ErrType}, {api.Number{}, pointer, false, api.ErrType},
		{api.Number{N: 100}, packed(2, 0), false, api.ErrOverflow}, {api.Number{N: -100}, packed(2, 0), false, api.ErrOverflow}, {api.Number{N: 10000}, binary(4, 0), false, api.ErrOverflow}, {api.Number{N: 1}, packed(2, 2), false, api.ErrOverflow}, {api.Number{N: 995, Scale: 3}, packed(2, 2), true, api.ErrOverflow}, {api.Number{N: 995, Scale: 1}, packed(2, 0), true, api.ErrOverflow}, {api.Number{N: api.MaxNumber}, zoned(15, 15), false, api.ErrOverflow},
	} {
		if v, e := numeric.Converted(x.x, x.t, x.half); v != (api.Value{}) || e != x.e {
			t.Errorf("Converted(%v, %v, %v): %v, %v, not %v", x.x, x.t, x.half, v, e, x.e)
		}
	}
}

// P1.3: exact results put into types.
func TestCalculated(t *testing.T) {
	for _, x := range []struct {
		op   int
		a, b api.Number
		t    api.DataType
		half bool
		n    int
	}{
		{api.NumericAdd, api.Number{N: 150, Scale: 2}, api.Number{N: 25, Scale: 1}, packed(3, 1), false, 40}, {api.NumericAdd, api.Number{N: 4, Scale: 1}, api.Number{N: 1, Scale: 1}, packed(1, 0), true, 1}, {api.NumericAdd, api.Number{N: -1, Scale: 1}, api.Number{N: -4, Scale: 1}, packed(1, 0), false, 0},
		{api.NumericSub, api.Number{N: 1}, api.Number{N: 1, Scale: 15}, zoned(15, 15), false, api.MaxNumber}, {api.NumericSub, api.Number{N: 3}, api.Number{N: 5}, zoned(1, 0), false, -2}, {api.NumericSub, api.Number{N: 5}, api.Number{N: 5}, zoned(1, 0), true, 0},
		{api.NumericMul, api.Number{N: -15, Scale: 1}, api.Number{N: 3}, packed(2, 0), false, -4}, {api.NumericMul, api.Number{N: -15, Scale: 1}, api.Number{N: 3}, packed(2, 0), true, -5}, {api.NumericMul, api.Number{N: api.MaxNumber, Scale: 15}, api.Number{N: api.MaxNumber, Scale: 15}, zoned(15, 15), false, api.MaxNumber - 1},
		{api.NumericDiv, api.Number{N: 10}, api.Number{N: 4}, packed(3, 1), false, 25}, {api.NumericDiv, api.Number{N: 10}, api.Number{N: 4}, packed(3, 0), false, 2}, {api.NumericDiv, api.Number{N: 10}, api.Number{N: 4}, packed(3, 0), true, 3}, {api.NumericDiv, api.Number{N: -10}, api.Number{N: 4}, packed(3, 0), true, -3}, {api.NumericDiv, api.Number{N: -10}, api.Number{N: 4}, packed(3, 0), false, -2},
		{api.NumericDiv, api.Number{N: 1}, api.Number{N: 3}, zoned(15, 15), false, 333333333333333}, {api.NumericDiv, api.Number{N: 2}, api.Number{N: -3}, zoned(15, 15), true, -666666666666667}, {api.NumericDiv, api.Number{N: api.MaxNumber, Scale: 15}, api.Number{N: api.MaxNumber}, zoned(15, 15), false, 1}, {api.NumericDiv, api.Number{}, api.Number{N: -3}, zoned(2, 0), true, 0},
		{api.NumericRem, api.Number{N: 7}, api.Number{N: 3}, zoned(1, 0), false, 1}, {api.NumericRem, api.Number{N: -7}, api.Number{N: 3}, zoned(1, 0), false, -1}, {api.NumericRem, api.Number{N: 7}, api.Number{N: -3}, zoned(1, 0), false, 1}, {api.NumericRem, api.Number{N: -7}, api.Number{N: -3}, zoned(1, 0), false, -1}, {api.NumericRem, api.Number{N: 75, Scale: 1}, api.Number{N: 2}, zoned(3, 1), false, 15}, {api.NumericRem, api.Number{N: 75, Scale: 1}, api.Number{N: 2}, zoned(3, 0), true, 2}, {api.NumericRem, api.Number{N: api.MaxNumber}, api.Number{N: 7, Scale: 15}, zoned(15, 15), false, 2}, {api.NumericRem, api.Number{N: 6}, api.Number{N: 3}, zoned(1, 0), true, 0},
	} {
		if v, e := numeric.Calculated(x.op, x.a, x.b, x.t, x.half); v != (api.Value{N: x.n}) || e != api.OK {
			t.Errorf("Calculated(%d, %v, %v, %v, %v): %v, %v, not %d", x.op, x.a, x.b, x.t, x.half, v, e, x.n)
		}
	}
}

// P1.3: all operations give what fractions give, also where an amount has more than one word.
func TestCalculatedExactly(t *testing.T) {
	q := &sequence{3}
	types := numericTypes()
	for op := range api.NumericOps {
		for range 6000 {
			a, b, to, half := q.number(), q.number(), types[q.below(len(types))], q.below(2) == 0
			if q.below(2) == 0 { // long types have room for most results
				to = zoned(15, q.below(16))
			}
			w, f := api.Value{}, api.ErrZero
			if r := resultBy(op, a, b); r != nil {
				w, f = putBy(r, to, half)
			}
			if v, e := numeric.Calculated(op, a, b, to, half); v != w || e != f {
				t.Errorf("Calculated(%d, %v, %v, %v, %v): %v, %v, not %v, %v", op, a, b, to, half, v, e, w, f)
			}
		}
	}
}

// P1.3: the errors of Calculated, the first one first.
func TestCalculatedErrors(t *testing.T) {
	wrong, one, zero := api.Number{Scale: 16}, api.Number{N: 1}, api.Number{Scale: 3}
	for _, x := range []struct {
		op   int
		a, b api.Number
		t    api.DataType
		e    api.Errno
	}{
		{-1, wrong, wrong, packed(0, 0), api.ErrKind}, {api.NumericOps, one, one, packed(1, 0), api.ErrKind}, {api.NumericAdd, wrong, one, packed(0, 0), api.ErrRange}, {api.NumericAdd, one, wrong, packed(0, 0), api.ErrRange},
		{api.NumericDiv, one, zero, packed(0, 0), api.ErrLength}, {api.NumericDiv, one, zero, api.DataType{Kind: 7}, api.ErrKind}, {api.NumericDiv, one, zero, char(1), api.ErrType}, {api.NumericRem, one, zero, pointer, api.ErrType}, {api.NumericMul, one, one, char(1), api.ErrType},
		{api.NumericDiv, one, zero, packed(1, 1), api.ErrZero}, {api.NumericRem, one, zero, packed(1, 0), api.ErrZero}, {api.NumericDiv, zero, zero, packed(1, 0), api.ErrZero}, {api.NumericMul, one, zero, packed(1, 0), api.OK}, {api.NumericDiv, zero, one, packed(1, 0), api.OK},
		{api.NumericAdd, api.Number{N: 9}, one, packed(1, 0), api.ErrOverflow}, {api.NumericMul, api.Number{N: api.MaxNumber}, api.Number{N: api.MaxNumber}, zoned(15, 15), api.ErrOverflow}, {api.NumericDiv, api.Number{N: api.MaxNumber}, api.Number{N: 1, Scale: 15}, zoned(15, 15), api.ErrOverflow}, {api.NumericSub, api.Number{N: -api.MaxNumber}, api.Number{N: api.MaxNumber}, zoned(15, 0), api.ErrOverflow},
		{api.NumericMul, api.Number{N: 4294967296}, api.Number{N: 4294967296}, zoned(15, 0), api.ErrOverflow},
	} {
		if v, e := numeric.Calculated(x.op, x.a, x.b, x.t, true); v != (api.Value{}) || e != x.e {
			t.Errorf("Calculated(%d, %v, %v, %v): %v, %v, not %v", x.op, x.a, x.b, x.t, v, e, x.e)
		}
	}
}

// P1.3: the texts of numbers, which are read back.
func TestFormatNumber(t *testing.T) {
	for _, x := range []struct {
		x api.Number
		s string
	}{
		{api.Number{}, "0"}, {api.Number{Scale: 2}, "0.00"}, {api.Number{N: -5, Scale: 2}, "-0.05"}, {api.Number{N: 5, Scale: 1}, "0.5"}, {api.Number{N: 12345, Scale: 2}, "123.45"}, {api.Number{N: 100}, "100"}, {api.Number{N: -100, Scale: 2}, "-1.00"}, {api.Number{N: 10, Scale: 1}, "1.0"}, {api.Number{N: -7}, "-7"},
		{api.Number{N: 1, Scale: 15}, "0.000000000000001"}, {api.Number{Scale: 15}, "0.000000000000000"}, {api.Number{N: api.MaxNumber}, "999999999999999"}, {api.Number{N: -api.MaxNumber, Scale: 15}, "-0.999999999999999"}, {api.Number{N: -api.MaxNumber, Scale: 14}, "-9.99999999999999"},
	} {
		if s, e := numeric.FormatNumber(x.x); s != x.s || e != api.OK {
			t.Errorf("FormatNumber(%v): %q, %v", x.x, s, e)
		}
		if y, n, e := numeric.ParseNumber(x.s); y != x.x || n != len(x.s) || e != api.OK {
			t.Errorf("ParseNumber(%q): %v, %d, %v", x.s, y, n, e)
		}
	}
}

// P1.3: texts of numbers that are not written, but read.
func TestParseNumber(t *testing.T) {
	for _, x := range []struct {
		s string
		x api.Number
	}{{"-0", api.Number{}}, {"-0.0", api.Number{Scale: 1}}, {"-0.000", api.Number{Scale: 3}}, {"1.500", api.Number{N: 1500, Scale: 3}}, {"10203.0405", api.Number{N: 102030405, Scale: 4}}} {
		if y, n, e := numeric.ParseNumber(x.s); y != x.x || n != len(x.s) || e != api.OK {
			t.Errorf("ParseNumber(%q): %v, %d, %v", x.s, y, n, e)
		}
	}
}

// P1.3: wrong texts, with the offset of what is wrong.
func TestParseNumberErrors(t *testing.T) {
	for _, x := range []struct {
		s  string
		at int
		e  api.Errno
	}{
		{"", 0, api.ErrEmpty}, {strings.Repeat("1", 41), 0, api.ErrLarge}, {"x" + strings.Repeat("1", 40), 0, api.ErrLarge}, {strings.Repeat("1", 40), 0, api.ErrOverflow}, {strings.Repeat("1", 39) + "x", 39, api.ErrSyntax}, {strings.Repeat("1", 39) + ".", 40, api.ErrEnd},
		{"-", 1, api.ErrEnd}, {"1.", 2, api.ErrEnd}, {"-0.", 3, api.ErrEnd}, {"-12.", 4, api.ErrEnd},
		{"x", 0, api.ErrSyntax}, {"+1", 0, api.ErrSyntax}, {" 1", 0, api.ErrSyntax}, {".5", 0, api.ErrSyntax}, {".", 0, api.ErrSyntax}, {"--1", 1, api.ErrSyntax}, {"-.5", 1, api.ErrSyntax}, {"-x", 1, api.ErrSyntax}, {"1 ", 1, api.ErrSyntax}, {"12-", 2, api.ErrSyntax}, {"1,5", 1, api.ErrSyntax}, {"1/", 1, api.ErrSyntax}, {"1:", 1, api.ErrSyntax},
		{"00", 1, api.ErrSyntax}, {"01", 1, api.ErrSyntax}, {"-01.5", 2, api.ErrSyntax}, {"-00", 2, api.ErrSyntax}, {"012345678901234567", 1, api.ErrSyntax}, {"0x", 1, api.ErrSyntax}, {"1..2", 2, api.ErrSyntax}, {"1.x", 2, api.ErrSyntax}, {"1.2.3", 3, api.ErrSyntax}, {"1.2x", 3, api.ErrSyntax}, {"0.5-", 3, api.ErrSyntax}, {"1.-5", 2, api.ErrSyntax}, {"1\xb2", 1, api.ErrSyntax},
		{"1234567890123456", 0, api.ErrOverflow}, {"-1234567890123456", 0, api.ErrOverflow}, {"1.000000000000000", 0, api.ErrOverflow}, {"0.0000000000000000", 0, api.ErrOverflow}, {"0.0000000000000001", 0, api.ErrOverflow}, {"12345678.12345678", 0, api.ErrOverflow},
	} {
		if y, at, e := numeric.ParseNumber(x.s); y != (api.Number{}) || at != x.at || e != x.e {
			t.Errorf("ParseNumber(%q): %v, %d, %v, not %d, %v", x.s, y, at, e, x.at, x.e)
		}
	}
}

// P1.3: divisors of more than one word, which arise where many decimals are cut off.
func TestLongDivisors(t *testing.T) {
	tenth := api.Number{N: 100000000000000, Scale: 15} // 0.1
	most := api.Number{N: api.MaxNumber, Scale: 5}
	word := api.Number{N: 184467440737096} // with 5 more zeros a little above 2 to the power of 64
	for _, x := range []struct {
		op   int
		a, b api.Number
		t    api.DataType
		half bool
		n    int
	}{
		{api.NumericMul, tenth, tenth, zoned(5, 2), false, 1}, {api.NumericMul, tenth, tenth, zoned(5, 1), true, 0}, {api.NumericMul, tenth, api.Number{N: 500000000000000, Scale: 15}, zoned(5, 1), true, 1}, {api.NumericMul, tenth, api.Number{N: 499999999999999, Scale: 15}, zoned(5, 1), true, 0}, {api.NumericMul, tenth, api.Number{N: -500000000000000, Scale: 15}, zoned(5, 1), false, 0},
		{api.NumericDiv, most, word, zoned(15, 0), true, 0}, {api.NumericRem, most, word, zoned(15, 5), false, api.MaxNumber}, {api.NumericRem, word, most, zoned(15, 5), false, 744073709618446},
	} {
		if v, e := numeric.Calculated(x.op, x.a, x.b, x.t, x.half); v != (api.Value{N: x.n}) || e != api.OK {
			t.Errorf("Calculated(%d, %v, %v, %v, %v): %v, %v, not %d", x.op, x.a, x.b, x.t, x.half, v, e, x.n)
		}
	}
	q := &sequence{13}
	for range 20000 {
		a, b := api.Number{N: q.amountWith(15), Scale: 10 + q.below(6)}, api.Number{N: -q.amountWith(15), Scale: 10 + q.below(6)}
		to, half := zoned(15, q.below(3)), q.below(2) == 0
		w, f := putBy(resultBy(api.NumericMul, a, b), to, half)
		if v, e := numeric.Calculated(api.NumericMul, a, b, to, half); v != w || e != f {
			t.Errorf("%v times %v in %v, %v: %v, %v, not %v, %v", a, b, to, half, v, e, w, f)
		}
	}
}
