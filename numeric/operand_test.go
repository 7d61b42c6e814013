package numeric_test

import (
	"strings"
	"testing"

	"midrange/api"
	"midrange/numeric"
)

func operand(t api.DataType, bytes string) api.NumericOperand {
	return api.NumericOperand{Type: t, Bytes: bytes}
}

// P1.4: the bytes of an operand's value in another type.
func TestCopied(t *testing.T) {
	for _, x := range []struct {
		x    api.NumericOperand
		t    api.DataType
		half bool
		s    string
	}{
		{operand(packed(5, 2), "\x12\x34\x5d"), zoned(5, 2), false, "\xf1\xf2\xf3\xf4\xd5"}, {operand(packed(5, 2), "\x12\x34\x5d"), zoned(4, 1), false, "\xf1\xf2\xf3\xd4"}, {operand(packed(5, 2), "\x12\x34\x5b"), zoned(4, 1), true, "\xf1\xf2\xf3\xd5"},
		{operand(zoned(1, 0), "\xf7"), binary(9, 3), false, "\x00\x00\x1b\x58"}, {operand(binary(4, 2), "\xff\xce"), packed(1, 0), true, "\x1d"}, {operand(binary(4, 2), "\xff\xce"), packed(1, 0), false, "\x0f"}, {operand(zoned(3, 0), "12\xc3"), zoned(3, 0), false, "\xf1\xf2\xf3"}, {operand(packed(3, 0), "\x00\x0d"), packed(3, 0), false, "\x00\x0f"},
		{operand(char(3), "abc"), char(3), false, "abc"}, {operand(char(3), "abc"), char(2), true, "ab"}, {operand(char(3), "abc"), char(5), true, "abc  "}, {operand(char(1), "\xff"), char(2), false, "\xff "}, {operand(char(256), strings.Repeat("x", 256)), char(1), false, "x"}, {operand(char(1), "x"), char(256), false, "x" + strings.Repeat(" ", 255)},
	} {
		if s, at, e := numeric.Copied(x.x, x.t, x.half); s != x.s || at != 0 || e != api.OK {
			t.Errorf("Copied(%v, %v, %v): % x, %d, %v", x.x, x.t, x.half, s, at, e)
		}
	}
}

// P1.4: the errors of Copied, the first one first.
func TestCopiedErrors(t *testing.T) {
	for _, x := range []struct {
		x    api.NumericOperand
		t    api.DataType
		half bool
		at   int
		e    api.Errno
	}{
		{operand(packed(0, 0), ""), api.DataType{Kind: -1}, false, 0, api.ErrLength}, {operand(packed(2, 3), ""), char(0), false, 0, api.ErrRange}, {operand(api.DataType{Kind: api.DataKinds}, ""), char(0), false, 0, api.ErrKind},
		{operand(pointer, ""), char(0), false, 0, api.ErrLength}, {operand(char(1), "abc"), zoned(16, 0), false, 0, api.ErrLength}, {operand(zoned(1, 0), "abc"), zoned(1, 2), false, 0, api.ErrRange}, {operand(zoned(1, 0), "\xff"), api.DataType{Kind: -1}, false, 0, api.ErrKind},
		{operand(pointer, "0123456789abcdef"), pointer, false, 0, api.ErrType}, {operand(pointer, ""), char(16), false, 0, api.ErrType}, {operand(char(1), ""), pointer, false, 0, api.ErrType}, {operand(zoned(1, 0), ""), pointer, false, 0, api.ErrType}, {operand(pointer, ""), packed(1, 0), false, 0, api.ErrType}, {operand(char(1), ""), zoned(1, 0), false, 0, api.ErrType}, {operand(zoned(1, 0), ""), char(1), false, 0, api.ErrType}, {operand(char(1), "1"), binary(4, 0), false, 0, api.ErrType},
		{operand(char(2), "a"), char(1), false, 0, api.ErrLength}, {operand(char(2), "abc"), char(5), false, 0, api.ErrLength}, {operand(zoned(2, 0), "\xf1"), zoned(5, 0), false, 0, api.ErrLength},
		{operand(packed(5, 2), "\x12\x3a\x5d"), zoned(1, 0), false, 1, api.ErrDecimal}, {operand(packed(4, 0), "\x11\x23\x4f"), zoned(5, 0), false, 0, api.ErrDecimal}, {operand(zoned(3, 0), "\xf1\xf2\x13"), zoned(5, 0), false, 2, api.ErrDecimal}, {operand(binary(4, 0), "\x27\x10"), zoned(5, 0), false, 0, api.ErrOverflow},
		{operand(packed(3, 0), "\x12\x3f"), packed(2, 0), false, 0, api.ErrOverflow}, {operand(packed(3, 0), "\x12\x3f"), packed(4, 2), false, 0, api.ErrOverflow}, {operand(zoned(3, 1), "\xf9\xf9\xf5"), zoned(2, 0), true, 0, api.ErrOverflow},
	} {
		if s, at, e := numeric.Copied(x.x, x.t, x.half); s != "" || at != x.at || e != x.e {
			t.Errorf("Copied(%v, %v, %v): % x, %d, %v, not %d, %v", x.x, x.t, x.half, s, at, e, x.at, x.e)
		}
	}
}

// P1.4: the bytes of results; each operand counts with its own type.
func TestCalculatedBytes(t *testing.T) {
	for _, x := range []struct {
		op   int
		a, b api.NumericOperand
		t    api.DataType
		half bool
		s    string
	}{
		{api.NumericAdd, operand(packed(3, 2), "\x15\x0f"), operand(zoned(2, 1), "\xf2\xf5"), packed(3, 1), false, "\x04\x0f"}, {api.NumericSub, operand(binary(4, 0), "\x00\x01"), operand(packed(1, 0), "\x3c"), zoned(2, 1), false, "\xf2\xd0"}, {api.NumericMul, operand(zoned(1, 1), "\xd5"), operand(zoned(1, 1), "\xf5"), packed(1, 1), false, "\x2d"}, {api.NumericMul, operand(zoned(1, 1), "\xd5"), operand(zoned(1, 1), "\xf5"), packed(1, 1), true, "\x3d"},
		{api.NumericDiv, operand(zoned(2, 0), "\xf1\xf0"), operand(binary(9, 0), "\x00\x00\x00\x04"), binary(4, 1), false, "\x00\x19"}, {api.NumericRem, operand(zoned(1, 0), "\xd7"), operand(zoned(1, 0), "\xf3"), binary(4, 0), false, "\xff\xff"}, {api.NumericSub, operand(zoned(1, 0), "\xf7"), operand(zoned(1, 0), "\xf7"), packed(2, 0), false, "\x00\x0f"},
	} {
		if s, at, e := numeric.CalculatedBytes(x.op, x.a, x.b, x.t, x.half); s != x.s || at != 0 || e != api.OK {
			t.Errorf("CalculatedBytes(%d, %v, %v, %v, %v): % x, %d, %v", x.op, x.a, x.b, x.t, x.half, s, at, e)
		}
	}
}

// P1.4: the errors of CalculatedBytes, the first one first.
func TestCalculatedBytesErrors(t *testing.T) {
	one, zero, nine := operand(zoned(1, 0), "\xf1"), operand(packed(3, 2), "\x00\x0d"), operand(zoned(1, 0), "\xf9")
	decimal, later, short := operand(zoned(2, 0), "\xf1\xfa"), operand(packed(5, 0), "\x00\x00\x09"), operand(zoned(2, 0), "\xf1")
	for _, x := range []struct {
		op   int
		a, b api.NumericOperand
		t    api.DataType
		at   int
		e    api.Errno
	}{
		{api.NumericOps, operand(packed(0, 0), ""), one, packed(1, 0), 0, api.ErrKind}, {-1, one, one, packed(1, 0), 0, api.ErrKind}, {api.NumericAdd, operand(packed(0, 0), ""), operand(packed(2, 3), ""), api.DataType{Kind: -1}, 0, api.ErrLength}, {api.NumericAdd, decimal, operand(packed(2, 3), ""), char(0), 0, api.ErrRange}, {api.NumericAdd, operand(char(1), "1"), operand(packed(2, 3), ""), char(0), 0, api.ErrRange}, {api.NumericAdd, operand(char(1), "1"), one, api.DataType{Kind: -1}, 0, api.ErrKind}, {api.NumericAdd, decimal, one, packed(0, 0), 0, api.ErrLength},
		{api.NumericAdd, operand(char(1), "1"), decimal, packed(1, 0), 0, api.ErrType}, {api.NumericAdd, decimal, operand(char(1), ""), packed(1, 0), 0, api.ErrType}, {api.NumericAdd, decimal, one, char(1), 0, api.ErrType}, {api.NumericAdd, operand(pointer, ""), one, packed(1, 0), 0, api.ErrType}, {api.NumericAdd, one, operand(pointer, ""), packed(1, 0), 0, api.ErrType}, {api.NumericAdd, one, one, pointer, 0, api.ErrType}, {api.NumericAdd, operand(char(1), "a"), operand(char(1), "b"), char(1), 0, api.ErrType},
		{api.NumericAdd, decimal, later, packed(1, 0), 1, api.ErrDecimal}, {api.NumericDiv, later, zero, packed(1, 0), 2, api.ErrDecimal}, {api.NumericAdd, one, decimal, packed(1, 0), 1, api.ErrDecimal}, {api.NumericAdd, nine, later, packed(1, 0), 2, api.ErrDecimal}, {api.NumericAdd, short, decimal, packed(1, 0), 0, api.ErrLength}, {api.NumericAdd, decimal, short, packed(1, 0), 1, api.ErrDecimal}, {api.NumericAdd, one, short, packed(1, 0), 0, api.ErrLength}, {api.NumericAdd, one, operand(binary(4, 0), "\x27\x10"), packed(15, 0), 0, api.ErrOverflow},
		{api.NumericDiv, one, zero, packed(1, 1), 0, api.ErrZero}, {api.NumericRem, nine, zero, packed(1, 1), 0, api.ErrZero}, {api.NumericAdd, nine, one, packed(1, 0), 0, api.ErrOverflow}, {api.NumericMul, nine, nine, binary(4, 3), 0, api.ErrOverflow}, {api.NumericDiv, one, one, packed(1, 1), 0, api.ErrOverflow},
	} {
		if s, at, e := numeric.CalculatedBytes(x.op, x.a, x.b, x.t, false); s != "" || at != x.at || e != x.e {
			t.Errorf("CalculatedBytes(%d, %v, %v, %v): % x, %d, %v, not %d, %v", x.op, x.a, x.b, x.t, s, at, e, x.at, x.e)
		}
	}
}

// P1.4: operands have the results of their numbers.
func TestOperandsAreNumbers(t *testing.T) {
	q := &sequence{4}
	types := numericTypes()
	for range 20000 {
		a, b, to := types[q.below(len(types))], types[q.below(len(types))], types[q.below(len(types))]
		x, y := api.Number{N: q.amountWith(a.Length), Scale: a.Scale}, api.Number{N: -q.amountWith(b.Length), Scale: b.Scale}
		op, half := q.below(api.NumericOps), q.below(2) == 0
		p, _ := numeric.Encode(a, api.Value{N: x.N})
		r, _ := numeric.Encode(b, api.Value{N: y.N})
		v, e := numeric.Calculated(op, x, y, to, half)
		want := ""
		if e == api.OK {
			want, _ = numeric.Encode(to, v)
		}
		if s, at, f := numeric.CalculatedBytes(op, operand(a, p), operand(b, r), to, half); s != want || at != 0 || f != e {
			t.Errorf("CalculatedBytes(%d, %v, %v, %v, %v): % x, %d, %v, not % x, %v", op, x, y, to, half, s, at, f, want, e)
		}
		v, e = numeric.Converted(y, to, half)
		want = ""
		if e == api.OK {
			want, _ = numeric.Encode(to, v)
		}
		if s, at, f := numeric.Copied(operand(b, r), to, half); s != want || at != 0 || f != e {
			t.Errorf("Copied(%v, %v, %v): % x, %d, %v, not % x, %v", y, to, half, s, at, f, want, e)
		}
	}
}
