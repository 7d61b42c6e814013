package numeric

import "midrange/api"

// CheckNumber accepts right numbers.
func CheckNumber(x api.Number) api.Errno {
	if x.N < -api.MaxNumber || x.N > api.MaxNumber || x.Scale < 0 || x.Scale > api.MaxScale {
		return api.ErrRange
	}
	return api.OK
}

// exact is an exact result: over divided by under, times 10 to the power of -scale.
type exact struct {
	below       bool // below 0, or 0
	over, under amount
	scale       int
}

func exactOf(x api.Number) exact {
	return exact{x.N < 0, amountOf(x.N), amountOf(1), x.Scale}
}

// brought returns x, which has no fraction, with a scale that is not below its own.
func (x exact) brought(scale int) exact {
	x.over = x.over.timesPower(scale - x.scale)
	x.scale = scale
	return x
}

func (x exact) negated() exact {
	x.below = !x.below
	return x
}

// sign is -1, 0 or 1.
func (x exact) sign() int {
	if x.over == (amount{}) {
		return 0
	}
	if x.below {
		return -1
	}
	return 1
}

// put brings an exact result into a numeric type.
func (x exact) put(t api.DataType, half bool) (api.Value, api.Errno) {
	over := x.over.timesPower(max(t.Scale-x.scale, 0))
	under := x.under.timesPower(max(x.scale-t.Scale, 0))
	n, rest := over.divided(under)
	if half && rest.plus(rest).compare(under) >= 0 {
		n = n.plus(amountOf(1))
	}
	if n.compare(amountOf(greatest(t))) > 0 {
		return api.Value{}, api.ErrOverflow
	}
	if x.below {
		return api.Value{N: -int(n[0])}, api.OK
	}
	return api.Value{N: int(n[0])}, api.OK
}

// sumOf returns the sum of two results without fractions.
func sumOf(a, b exact) exact {
	scale := max(a.scale, b.scale)
	a, b = a.brought(scale), b.brought(scale)
	if a.below == b.below {
		a.over = a.over.plus(b.over)
		return a
	}
	if a.over.compare(b.over) < 0 {
		a, b = b, a
	}
	a.over = a.over.minus(b.over)
	return a
}

func productOf(a, b api.Number) exact {
	over := amountOf(a.N).timesWord(amountOf(b.N)[0])
	return exact{(a.N < 0) != (b.N < 0), over, amountOf(1), a.Scale + b.Scale}
}

func quotientOf(a, b api.Number) exact {
	return exact{(a.N < 0) != (b.N < 0), amountOf(a.N), amountOf(b.N), a.Scale - b.Scale}
}

func remainderOf(a, b api.Number) exact {
	scale := max(a.Scale, b.Scale)
	x, y := exactOf(a).brought(scale), exactOf(b).brought(scale)
	_, x.over = x.over.divided(y.over)
	return x
}

// Compared returns -1, 0 or 1 as a is less than b, equal to it, or greater.
func Compared(a, b api.Number) (int, api.Errno) {
	if e := firstError(CheckNumber(a), CheckNumber(b)); e != api.OK {
		return 0, e
	}
	return sumOf(exactOf(a), exactOf(b).negated()).sign(), api.OK
}

// Converted returns a number put into a type.
func Converted(x api.Number, t api.DataType, half bool) (api.Value, api.Errno) {
	if e := firstError(CheckNumber(x), CheckType(t), checkNumeric(t)); e != api.OK {
		return api.Value{}, e
	}
	return exactOf(x).put(t, half)
}

// Calculated returns the exact result of an operation put into a type.
func Calculated(op int, a, b api.Number, t api.DataType, half bool) (api.Value, api.Errno) {
	if e := firstError(checkOperation(op), CheckNumber(a), CheckNumber(b), CheckType(t), checkNumeric(t), checkDivisor(op, b)); e != api.OK {
		return api.Value{}, e
	}
	return resultOf(op, a, b).put(t, half)
}

func checkOperation(op int) api.Errno {
	return errorIf(op < 0 || op >= api.NumericOps, api.ErrKind)
}

// checkNumeric returns ErrType if one of the types is not numeric.
func checkNumeric(types ...api.DataType) api.Errno {
	for _, t := range types {
		if !isNumeric(t) {
			return api.ErrType
		}
	}
	return api.OK
}

func checkDivisor(op int, b api.Number) api.Errno {
	divides := op == api.NumericDiv || op == api.NumericRem
	return errorIf(divides && b.N == 0, api.ErrZero)
}

func resultOf(op int, a, b api.Number) exact {
	switch op {
	case api.NumericSub:
		return sumOf(exactOf(a), exactOf(b).negated())
	case api.NumericMul:
		return productOf(a, b)
	case api.NumericDiv:
		return quotientOf(a, b)
	case api.NumericRem:
		return remainderOf(a, b)
	}
	return sumOf(exactOf(a), exactOf(b))
}
