package numeric

import (
	"strings"

	"midrange/api"
)

// Copied returns the bytes of an operand's value in another type. Beside an error the number is the offset of the operand's byte that is wrong.
func Copied(x api.NumericOperand, t api.DataType, half bool) (string, int, api.Errno) {
	if e := firstError(CheckType(x.Type), CheckType(t), checkAlike(x.Type, t)); e != api.OK {
		return "", 0, e
	}
	v, at, e := Decode(x.Type, x.Bytes)
	if e != api.OK {
		return "", at, e
	}
	if t.Kind == api.DataChar {
		return cutOrFilled(v.S, t.Length), 0, api.OK
	}
	v, e = Converted(api.Number{N: v.N, Scale: x.Type.Scale}, t, half)
	return written(t, v, e)
}

// checkAlike accepts two types that are both numeric, or both DataChar.
func checkAlike(a, b api.DataType) api.Errno {
	if a.Kind == api.DataChar && b.Kind == api.DataChar {
		return api.OK
	}
	return checkNumeric(a, b)
}

func cutOrFilled(s string, length int) string {
	if len(s) >= length {
		return s[:length]
	}
	return s + strings.Repeat(" ", length-len(s))
}

// written returns the bytes of a value, unless there is an error beside it.
func written(t api.DataType, v api.Value, e api.Errno) (string, int, api.Errno) {
	if e != api.OK {
		return "", 0, e
	}
	return bytesOf(t, v), 0, api.OK
}

// CalculatedBytes returns the bytes of an operation's result. Beside an error the number is the offset of the byte of an operand that is wrong.
func CalculatedBytes(op int, a, b api.NumericOperand, t api.DataType, half bool) (string, int, api.Errno) {
	e := firstError(checkOperation(op), CheckType(a.Type), CheckType(b.Type), CheckType(t), checkNumeric(a.Type, b.Type, t))
	if e != api.OK {
		return "", 0, e
	}
	x, at, e := operandNumber(a)
	if e != api.OK {
		return "", at, e
	}
	y, at, e := operandNumber(b)
	if e != api.OK {
		return "", at, e
	}
	v, e := Calculated(op, x, y, t, half)
	return written(t, v, e)
}

// operandNumber returns the number of a numeric operand.
func operandNumber(x api.NumericOperand) (api.Number, int, api.Errno) {
	v, at, e := Decode(x.Type, x.Bytes)
	if e != api.OK {
		return api.Number{}, at, e
	}
	return api.Number{N: v.N, Scale: x.Type.Scale}, 0, api.OK
}
