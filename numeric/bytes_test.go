package numeric_test

import (
	"testing"

	"midrange/api"
	"midrange/numeric"
)

// P1.2: the bytes of values, which are read back.
func TestBytesOfValues(t *testing.T) {
	for _, x := range []struct {
		t api.DataType
		v api.Value
		s string
	}{
		{packed(5, 2), api.Value{N: -12345}, "\x12\x34\x5d"}, {packed(5, 2), api.Value{N: -1230}, "\x01\x23\x0d"}, {packed(5, 0), api.Value{N: 12345}, "\x12\x34\x5f"},
		{packed(4, 0), api.Value{N: 1234}, "\x01\x23\x4f"}, {packed(4, 0), api.Value{N: -9}, "\x00\x00\x9d"}, {packed(1, 1), api.Value{N: 7}, "\x7f"}, {packed(2, 0), api.Value{}, "\x00\x0f"},
		{packed(15, 0), api.Value{N: -api.MaxNumber}, "\x99\x99\x99\x99\x99\x99\x99\x9d"},
		{zoned(3, 0), api.Value{N: -7}, "\xf0\xf0\xd7"}, {zoned(3, 1), api.Value{N: 120}, "\xf1\xf2\xf0"}, {zoned(1, 0), api.Value{N: -9}, "\xd9"}, {zoned(2, 0), api.Value{}, "\xf0\xf0"}, {zoned(2, 2), api.Value{N: -90}, "\xf9\xd0"},
		{binary(4, 0), api.Value{N: 1}, "\x00\x01"}, {binary(4, 0), api.Value{N: -2}, "\xff\xfe"}, {binary(4, 2), api.Value{N: 9999}, "\x27\x0f"}, {binary(4, 2), api.Value{N: -9999}, "\xd8\xf1"},
		{binary(9, 0), api.Value{N: 66051}, "\x00\x01\x02\x03"}, {binary(9, 0), api.Value{N: -1}, "\xff\xff\xff\xff"}, {binary(9, 0), api.Value{N: 999999999}, "\x3b\x9a\xc9\xff"}, {binary(9, 0), api.Value{N: -999999999}, "\xc4\x65\x36\x01"},
		{char(4), api.Value{S: "a\x00\xff "}, "a\x00\xff "},
	} {
		if s, e := numeric.Encode(x.t, x.v); s != x.s || e != api.OK {
			t.Errorf("Encode(%v, %v): % x, %v", x.t, x.v, s, e)
		}
		if v, at, e := numeric.Decode(x.t, x.s); v != x.v || at != 0 || e != api.OK {
			t.Errorf("Decode(%v, % x): %v, %d, %v", x.t, x.s, v, at, e)
		}
	}
}

// P1.2: Encode has the error of CheckValue.
func TestEncodeErrors(t *testing.T) {
	for _, x := range []struct {
		t api.DataType
		v api.Value
		e api.Errno
	}{
		{api.DataType{Kind: 5, Length: 1}, api.Value{}, api.ErrKind}, {packed(16, 0), api.Value{}, api.ErrLength}, {zoned(2, 3), api.Value{}, api.ErrRange}, {pointer, api.Value{}, api.ErrType},
		{zoned(2, 0), api.Value{N: 1, S: "1"}, api.ErrForm}, {char(2), api.Value{N: 1, S: "ab"}, api.ErrForm}, {zoned(2, 0), api.Value{N: 100}, api.ErrOverflow}, {packed(2, 0), api.Value{N: -100}, api.ErrOverflow},
		{binary(4, 0), api.Value{N: 10000}, api.ErrOverflow}, {char(2), api.Value{S: "abc"}, api.ErrLength},
	} {
		if s, e := numeric.Encode(x.t, x.v); s != "" || e != x.e {
			t.Errorf("Encode(%v, %v): %q, %v", x.t, x.v, s, e)
		}
	}
}

// P1.2: the errors of reading, with the offset of the byte.
func TestDecodeErrors(t *testing.T) {
	for _, x := range []struct {
		t  api.DataType
		s  string
		at int
		e  api.Errno
	}{
		{api.DataType{Kind: 5}, "", 0, api.ErrKind}, {packed(0, 0), "", 0, api.ErrLength}, {packed(2, 3), "", 0, api.ErrRange}, {pointer, "", 0, api.ErrType}, {pointer, "0123456789abcdef", 0, api.ErrType},
		{char(2), "a", 0, api.ErrLength}, {char(2), "abc", 0, api.ErrLength}, {char(2), "", 0, api.ErrLength}, {packed(5, 2), "\x12\x34", 0, api.ErrLength}, {packed(5, 2), "\x12\x34\x56\x7f", 0, api.ErrLength},
		{zoned(2, 0), "\xf1\xf2\xf3", 0, api.ErrLength}, {zoned(2, 0), "\xfa", 0, api.ErrLength}, {binary(4, 0), "\x00\x00\x00\x00", 0, api.ErrLength}, {binary(9, 0), "\x00\x00", 0, api.ErrLength},
		{packed(5, 2), "\xa2\x34\x5d", 0, api.ErrDecimal}, {packed(5, 2), "\x1a\x34\x5d", 0, api.ErrDecimal}, {packed(5, 2), "\x12\xa4\x5d", 1, api.ErrDecimal}, {packed(5, 2), "\x12\x3f\x5d", 1, api.ErrDecimal},
		{packed(5, 2), "\x12\x34\xad", 2, api.ErrDecimal}, {packed(5, 2), "\x12\x34\x59", 2, api.ErrDecimal}, {packed(5, 2), "\x12\x34\x50", 2, api.ErrDecimal}, {packed(5, 2), "\x12\x3b\xa0", 1, api.ErrDecimal},
		{packed(4, 0), "\x11\x23\x4f", 0, api.ErrDecimal}, {packed(4, 0), "\x91\xa3\x4f", 0, api.ErrDecimal}, {packed(2, 0), "\x10\x1f", 0, api.ErrDecimal}, {packed(4, 0), "\x01\x23\x49", 2, api.ErrDecimal},
		{packed(1, 0), "\xaf", 0, api.ErrDecimal}, {packed(1, 0), "\x79", 0, api.ErrDecimal},
		{zoned(3, 0), "\xfa\xf0\xf1", 0, api.ErrDecimal}, {zoned(3, 0), "\xf0\xfa\xf1", 1, api.ErrDecimal}, {zoned(3, 0), "\xf0\xf0\xfa", 2, api.ErrDecimal}, {zoned(3, 0), "\xf0\xf0\x91", 2, api.ErrDecimal}, {zoned(3, 0), "\xf0\xff\x01", 1, api.ErrDecimal}, {zoned(3, 0), "123", 2, api.ErrDecimal},
		{binary(4, 0), "\x27\x10", 0, api.ErrOverflow}, {binary(4, 0), "\x80\x00", 0, api.ErrOverflow}, {binary(4, 0), "\xd8\xf0", 0, api.ErrOverflow}, {binary(9, 0), "\x3b\x9a\xca\x00", 0, api.ErrOverflow}, {binary(9, 0), "\x80\x00\x00\x00", 0, api.ErrOverflow}, {binary(9, 0), "\xc4\x65\x36\x00", 0, api.ErrOverflow},
	} {
		if v, at, e := numeric.Decode(x.t, x.s); v != (api.Value{}) || at != x.at || e != x.e {
			t.Errorf("Decode(%v, % x): %v, %d, %v", x.t, x.s, v, at, e)
		}
	}
}

// P1.2: what is read although it is never written: other signs, other high half bytes, minus 0.
func TestDecodeOtherForms(t *testing.T) {
	for _, x := range []struct {
		sign byte
		n    int
	}{{10, 345}, {11, -345}, {12, 345}, {13, -345}, {14, 345}, {15, 345}} {
		if v, at, e := numeric.Decode(packed(3, 0), string([]byte{0x34, 0x50 | x.sign})); v != (api.Value{N: x.n}) || at != 0 || e != api.OK {
			t.Errorf("Decode packed with sign %d: %v, %d, %v", x.sign, v, at, e)
		}
		if v, at, e := numeric.Decode(zoned(3, 0), string([]byte{0xf3, 0x04, x.sign<<4 | 5})); v != (api.Value{N: x.n}) || at != 0 || e != api.OK {
			t.Errorf("Decode zoned with sign %d: %v, %d, %v", x.sign, v, at, e)
		}
	}
	for sign := range byte(10) {
		if v, at, e := numeric.Decode(packed(3, 0), string([]byte{0x34, 0x50 | sign})); v != (api.Value{}) || at != 1 || e != api.ErrDecimal {
			t.Errorf("Decode packed with sign %d: %v, %d, %v", sign, v, at, e)
		}
		if v, at, e := numeric.Decode(zoned(3, 0), string([]byte{0xf3, 0xf4, sign<<4 | 5})); v != (api.Value{}) || at != 2 || e != api.ErrDecimal {
			t.Errorf("Decode zoned with sign %d: %v, %d, %v", sign, v, at, e)
		}
	}
	for _, x := range []struct {
		t api.DataType
		s string
		n int
	}{{packed(3, 0), "\x00\x0d", 0}, {packed(2, 0), "\x00\x0b", 0}, {zoned(2, 0), "\xf0\xd0", 0}, {zoned(3, 0), "12\xf3", 123}, {zoned(3, 0), "\xd1\x92\xf3", 123}, {packed(5, 2), "\x12\x34\x5b", -12345}} {
		if v, at, e := numeric.Decode(x.t, x.s); v != (api.Value{N: x.n}) || at != 0 || e != api.OK {
			t.Errorf("Decode(%v, % x): %v, %d, %v", x.t, x.s, v, at, e)
		}
	}
}
