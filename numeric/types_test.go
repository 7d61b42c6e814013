package numeric_test

import (
	"math"
	"strings"
	"testing"

	"midrange/api"
	"midrange/numeric"
)

func char(length int) api.DataType {
	return api.DataType{Kind: api.DataChar, Length: length}
}

func packed(length, scale int) api.DataType {
	return api.DataType{Kind: api.DataPacked, Length: length, Scale: scale}
}

func zoned(length, scale int) api.DataType {
	return api.DataType{Kind: api.DataZoned, Length: length, Scale: scale}
}

func binary(length, scale int) api.DataType {
	return api.DataType{Kind: api.DataBinary, Length: length, Scale: scale}
}

var pointer = api.DataType{Kind: api.DataPointer}

// numericTypes returns all right numeric types.
func numericTypes() []api.DataType {
	var l []api.DataType
	for length := range api.MaxDigits + 1 {
		for scale := range length + 1 {
			if length > 0 {
				l = append(l, packed(length, scale), zoned(length, scale))
			}
			if length == 4 || length == 9 {
				l = append(l, binary(length, scale))
			}
		}
	}
	return l
}

func power(n int) int {
	p := 1
	for range n {
		p *= 10
	}
	return p
}

// P1.1: right types, and the first error of wrong ones.
func TestCheckType(t *testing.T) {
	for _, x := range []struct {
		t api.DataType
		e api.Errno
	}{
		{char(1), api.OK}, {char(api.MaxString), api.OK}, {char(0), api.ErrLength}, {char(-1), api.ErrLength}, {char(api.MaxString + 1), api.ErrLength},
		{api.DataType{Kind: api.DataChar, Length: 3, Scale: 1}, api.ErrRange}, {api.DataType{Kind: api.DataChar, Length: 3, Scale: -1}, api.ErrRange},
		{packed(1, 0), api.OK}, {packed(1, 1), api.OK}, {packed(15, 15), api.OK}, {packed(15, 0), api.OK},
		{packed(0, 0), api.ErrLength}, {packed(16, 0), api.ErrLength}, {packed(-1, 0), api.ErrLength}, {packed(5, 6), api.ErrRange}, {packed(5, -1), api.ErrRange},
		{zoned(1, 0), api.OK}, {zoned(1, 1), api.OK}, {zoned(15, 15), api.OK},
		{zoned(0, 0), api.ErrLength}, {zoned(16, 0), api.ErrLength}, {zoned(5, 6), api.ErrRange}, {zoned(5, -1), api.ErrRange},
		{binary(4, 0), api.OK}, {binary(4, 4), api.OK}, {binary(9, 0), api.OK}, {binary(9, 9), api.OK},
		{binary(0, 0), api.ErrLength}, {binary(3, 0), api.ErrLength}, {binary(5, 0), api.ErrLength}, {binary(8, 0), api.ErrLength}, {binary(10, 0), api.ErrLength}, {binary(15, 0), api.ErrLength},
		{binary(4, 5), api.ErrRange}, {binary(9, 10), api.ErrRange}, {binary(9, -1), api.ErrRange},
		{pointer, api.OK}, {api.DataType{Kind: api.DataPointer, Length: 16}, api.ErrLength}, {api.DataType{Kind: api.DataPointer, Scale: 1}, api.ErrRange},
		{api.DataType{Kind: api.DataKinds, Length: 1}, api.ErrKind}, {api.DataType{Kind: -1, Length: 1}, api.ErrKind},
		{api.DataType{Kind: api.DataKinds, Length: -1, Scale: -1}, api.ErrKind}, {packed(16, 17), api.ErrLength}, {char(0x7fffffffffffffff), api.ErrLength},
		{api.DataType{Kind: api.DataPointer, Length: 1, Scale: 1}, api.ErrLength},
	} {
		if e := numeric.CheckType(x.t); e != x.e {
			t.Errorf("CheckType(%v): %v, not %v", x.t, e, x.e)
		}
	}
}

// P1.1: the number of bytes.
func TestSizeOf(t *testing.T) {
	for _, x := range []struct {
		t    api.DataType
		size int
		e    api.Errno
	}{
		{char(1), 1, api.OK}, {char(256), 256, api.OK}, {zoned(1, 0), 1, api.OK}, {zoned(15, 7), 15, api.OK},
		{packed(1, 0), 1, api.OK}, {packed(2, 0), 2, api.OK}, {packed(3, 0), 2, api.OK}, {packed(4, 4), 3, api.OK}, {packed(15, 0), 8, api.OK},
		{binary(4, 0), 2, api.OK}, {binary(9, 2), 4, api.OK}, {pointer, 16, api.OK},
		{packed(16, 0), 0, api.ErrLength}, {packed(3, 4), 0, api.ErrRange}, {api.DataType{Kind: 9, Length: 3}, 0, api.ErrKind}, {char(0), 0, api.ErrLength},
	} {
		if n, e := numeric.SizeOf(x.t); n != x.size || e != x.e {
			t.Errorf("SizeOf(%v): %d, %v", x.t, n, e)
		}
	}
}

// P1.1: right values, and the first error of wrong ones.
func TestCheckValue(t *testing.T) {
	for _, x := range []struct {
		t api.DataType
		v api.Value
		e api.Errno
	}{
		{packed(3, 1), api.Value{N: 999}, api.OK}, {packed(3, 1), api.Value{N: -999}, api.OK}, {packed(3, 3), api.Value{}, api.OK},
		{packed(3, 1), api.Value{N: 1000}, api.ErrOverflow}, {packed(3, 1), api.Value{N: -1000}, api.ErrOverflow},
		{zoned(15, 0), api.Value{N: api.MaxNumber}, api.OK}, {zoned(15, 0), api.Value{N: -api.MaxNumber}, api.OK}, {zoned(15, 0), api.Value{N: api.MaxNumber + 1}, api.ErrOverflow},
		{zoned(1, 0), api.Value{N: math.MinInt}, api.ErrOverflow}, {zoned(1, 0), api.Value{N: math.MaxInt}, api.ErrOverflow},
		{binary(4, 2), api.Value{N: -9999}, api.OK}, {binary(4, 2), api.Value{N: 10000}, api.ErrOverflow}, {binary(9, 2), api.Value{N: 999999999}, api.OK}, {binary(9, 2), api.Value{N: -1000000000}, api.ErrOverflow},
		{packed(3, 1), api.Value{N: 1, S: "x"}, api.ErrForm}, {zoned(3, 1), api.Value{N: 1000, S: "x"}, api.ErrForm}, {binary(4, 0), api.Value{S: " "}, api.ErrForm},
		{char(3), api.Value{S: "abc"}, api.OK}, {char(3), api.Value{S: "\x00\xff "}, api.OK}, {char(3), api.Value{S: "ab"}, api.ErrLength}, {char(3), api.Value{S: "abcd"}, api.ErrLength}, {char(3), api.Value{}, api.ErrLength},
		{char(3), api.Value{N: 1, S: "abc"}, api.ErrForm}, {char(3), api.Value{N: -1, S: "ab"}, api.ErrForm},
		{pointer, api.Value{}, api.ErrType}, {pointer, api.Value{N: 1, S: "x"}, api.ErrType}, {api.DataType{Kind: api.DataPointer, Length: 1}, api.Value{}, api.ErrLength},
		{packed(0, 0), api.Value{S: "x"}, api.ErrLength}, {packed(3, 4), api.Value{N: 1000}, api.ErrRange}, {api.DataType{Kind: -1}, api.Value{S: "x"}, api.ErrKind},
	} {
		if e := numeric.CheckValue(x.t, x.v); e != x.e {
			t.Errorf("CheckValue(%v, %v): %v, not %v", x.t, x.v, e, x.e)
		}
	}
}

// P1.1: the least and the greatest value are right, and what is beyond them is not.
func TestLeastAndGreatest(t *testing.T) {
	for _, x := range numericTypes() {
		least, e := numeric.LeastOf(x)
		if least != (api.Value{N: 1 - power(x.Length)}) || e != api.OK {
			t.Errorf("LeastOf(%v): %v, %v", x, least, e)
		}
		greatest, e := numeric.GreatestOf(x)
		if greatest != (api.Value{N: power(x.Length) - 1}) || e != api.OK {
			t.Errorf("GreatestOf(%v): %v, %v", x, greatest, e)
		}
		for _, n := range []int{least.N, greatest.N} {
			if e := numeric.CheckValue(x, api.Value{N: n}); e != api.OK {
				t.Errorf("CheckValue(%v, %d): %v", x, n, e)
			}
		}
		for _, n := range []int{least.N - 1, greatest.N + 1} {
			if e := numeric.CheckValue(x, api.Value{N: n}); e != api.ErrOverflow {
				t.Errorf("CheckValue(%v, %d): %v", x, n, e)
			}
		}
	}
	for _, n := range []int{1, 3, api.MaxString} {
		if v, e := numeric.LeastOf(char(n)); v != (api.Value{S: strings.Repeat("\x00", n)}) || e != api.OK {
			t.Errorf("LeastOf(char %d): %v, %v", n, v, e)
		}
		if v, e := numeric.GreatestOf(char(n)); v != (api.Value{S: strings.Repeat("\xff", n)}) || e != api.OK {
			t.Errorf("GreatestOf(char %d): %v, %v", n, v, e)
		}
	}
	for _, x := range []struct {
		t api.DataType
		e api.Errno
	}{{pointer, api.ErrType}, {char(0), api.ErrLength}, {packed(16, 0), api.ErrLength}, {zoned(2, 3), api.ErrRange}, {api.DataType{Kind: api.DataKinds}, api.ErrKind}} {
		if v, e := numeric.LeastOf(x.t); v != (api.Value{}) || e != x.e {
			t.Errorf("LeastOf(%v): %v, %v", x.t, v, e)
		}
		if v, e := numeric.GreatestOf(x.t); v != (api.Value{}) || e != x.e {
			t.Errorf("GreatestOf(%v): %v, %v", x.t, v, e)
		}
	}
}
