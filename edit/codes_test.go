package edit_test

import (
	"fmt"
	"math"
	"strings"
	"testing"

	"midrange/api"
	"midrange/edit"
)

func packed(length, scale int) api.DataType {
	return api.DataType{Kind: api.DataPacked, Length: length, Scale: scale}
}

func zoned(length, scale int) api.DataType {
	return api.DataType{Kind: api.DataZoned, Length: length, Scale: scale}
}

func binary(length, scale int) api.DataType {
	return api.DataType{Kind: api.DataBinary, Length: length, Scale: scale}
}

func char(length int) api.DataType {
	return api.DataType{Kind: api.DataChar, Length: length}
}

var pointer = api.DataType{Kind: api.DataPointer}

func plain(code byte) api.EditCode { return api.EditCode{Code: code} }

func stars(code byte) api.EditCode {
	return api.EditCode{Code: code, Fill: api.FillAsterisk}
}

func dollar(code byte) api.EditCode {
	return api.EditCode{Code: code, Fill: api.FillDollar}
}

// The codes, by the lists of the document.
const (
	codes       = "1234ABCDJKLMNOPQXYZ"
	withCommas  = "12ABJKNO"
	zeroPrinted = "13ACJLNP"
	withCredit  = "ABCD"
	withMinus   = "JKLM"
	minusFirst  = "NOPQ"
	withFills   = "1234ABCDJKLM"
)

func in(list string, code byte) bool { return strings.IndexByte(list, code) >= 0 }

// rightCodes returns all codes with all fills that go with a numeric type.
func rightCodes(t api.DataType) []api.EditCode {
	var l []api.EditCode
	for _, c := range []byte(codes) {
		if c == 'Y' && (t.Scale > 0 || t.Length != 4 && t.Length != 6 && t.Length != 8) {
			continue
		}
		l = append(l, plain(c))
		if in(withFills, c) {
			l = append(l, stars(c), dollar(c))
		}
	}
	return l
}

// allTypes returns right types of all lengths and scales, packed and zoned ones in turn.
func allTypes() []api.DataType {
	l := []api.DataType{binary(4, 0), binary(4, 2), binary(4, 4), binary(9, 0), binary(9, 3), binary(9, 9)}
	for length := 1; length <= api.MaxDigits; length++ {
		for scale := 0; scale <= length; scale++ {
			l = append(l, api.DataType{Kind: api.DataPacked + (length+scale)%2, Length: length, Scale: scale})
		}
	}
	return l
}

func most(t api.DataType) int {
	n := 0
	for range t.Length {
		n = 10*n + 9
	}
	return n
}

// samples returns some amounts of a type, with digits at each place.
func samples(t api.DataType) []int {
	l := []int{0, most(t), most(t) / 3, most(t) / 7, most(t) / 9 * 5}
	first := 1
	for p := 1; p <= most(t); p *= 10 {
		l = append(l, p, most(t)-p)
		first = p
	}
	for digit := 2; digit <= 9; digit++ {
		l = append(l, digit*first)
	}
	return l
}

// textBy computes a text by a code from the right to the left.
func textBy(t api.DataType, n int, e api.EditCode) string {
	digits := fmt.Sprintf("%0*d", t.Length, max(n, -n))
	switch e.Code {
	case 'X':
		return digits
	case 'Z':
		return fmt.Sprintf("%*s", t.Length, strings.TrimLeft(digits, "0"))
	case 'Y':
		text := digits[:2]
		for i := 2; i < len(digits); i += 2 {
			if i < 6 {
				text += "/"
			}
			text += digits[i : i+2]
		}
		if text[0] == '0' {
			text = " " + text[1:]
		}
		return text
	}
	text := amountBy(t, digits, in(withCommas, e.Code))
	if n < 0 && in(withCredit, e.Code) {
		text += "CR"
	} else if in(withCredit, e.Code) {
		text += "  "
	} else if n < 0 && in(withMinus, e.Code) {
		text += "-"
	} else if in(withMinus, e.Code) {
		text += " "
	}
	if n == 0 && !in(zeroPrinted, e.Code) {
		text = strings.Repeat(" ", len(text))
	}
	return frontBy(text, n, e)
}

func amountBy(t api.DataType, digits string, commas bool) string {
	text, places := "", 0
	whole := strings.TrimLeft(digits[:t.Length-t.Scale], "0")
	if whole == "" && t.Scale == 0 {
		whole = "0"
	}
	if t.Scale > 0 {
		text = "." + digits[t.Length-t.Scale:]
	}
	for i := range t.Length - t.Scale {
		if commas && i > 0 && i%3 == 0 {
			places++
			if len(whole) > i {
				text = "," + text
			}
		}
		places++
		if len(whole) > i {
			text = whole[len(whole)-1-i:len(whole)-i] + text
		}
	}
	if t.Scale > 0 {
		places += 1 + t.Scale
	}
	return fmt.Sprintf("%*s", places, text)
}

func frontBy(text string, n int, e api.EditCode) string {
	if strings.TrimSpace(text) == "" && (e.Fill == api.FillDollar || in(minusFirst, e.Code)) {
		return " " + text
	}
	first := strings.TrimLeft(text, " ")
	if e.Fill == api.FillAsterisk && first != "" {
		return strings.Repeat("*", len(text)-len(first)) + first
	}
	if e.Fill == api.FillDollar {
		return fmt.Sprintf("%*s", len(text)+1, "$"+first)
	}
	if in(minusFirst, e.Code) && n < 0 {
		return fmt.Sprintf("%*s", len(text)+1, "-"+first)
	}
	if in(minusFirst, e.Code) {
		return " " + text
	}
	return text
}

// P2.1: the texts by each code.
func TestEdited(t *testing.T) {
	for _, x := range []struct {
		t api.DataType
		n int
		e api.EditCode
		s string
	}{
		{packed(7, 2), 123450, plain('1'), " 1,234.50"}, {packed(7, 2), 0, plain('1'), "      .00"}, {packed(7, 2), -5, plain('1'), "      .05"},
		{packed(7, 2), 123450, plain('2'), " 1,234.50"}, {packed(7, 2), 0, plain('2'), "         "}, {packed(7, 2), -5, plain('2'), "      .05"},
		{packed(7, 2), 123450, plain('3'), " 1234.50"}, {packed(7, 2), 0, plain('3'), "     .00"}, {packed(7, 2), -5, plain('3'), "     .05"},
		{packed(7, 2), 123450, plain('4'), " 1234.50"}, {packed(7, 2), 0, plain('4'), "        "}, {packed(7, 2), -5, plain('4'), "     .05"},
		{packed(7, 2), 123450, plain('A'), " 1,234.50  "}, {packed(7, 2), 0, plain('A'), "      .00  "}, {packed(7, 2), -5, plain('A'), "      .05CR"},
		{packed(7, 2), 123450, plain('B'), " 1,234.50  "}, {packed(7, 2), 0, plain('B'), "           "}, {packed(7, 2), -5, plain('B'), "      .05CR"},
		{packed(7, 2), 123450, plain('C'), " 1234.50  "}, {packed(7, 2), 0, plain('C'), "     .00  "}, {packed(7, 2), -5, plain('C'), "     .05CR"},
		{packed(7, 2), 123450, plain('D'), " 1234.50  "}, {packed(7, 2), 0, plain('D'), "          "}, {packed(7, 2), -5, plain('D'), "     .05CR"},
		{packed(7, 2), 123450, plain('J'), " 1,234.50 "}, {packed(7, 2), 0, plain('J'), "      .00 "}, {packed(7, 2), -5, plain('J'), "      .05-"},
		{packed(7, 2), 123450, plain('K'), " 1,234.50 "}, {packed(7, 2), 0, plain('K'), "          "}, {packed(7, 2), -5, plain('K'), "      .05-"},
		{packed(7, 2), 123450, plain('L'), " 1234.50 "}, {packed(7, 2), 0, plain('L'), "     .00 "}, {packed(7, 2), -5, plain('L'), "     .05-"},
		{packed(7, 2), 123450, plain('M'), " 1234.50 "}, {packed(7, 2), 0, plain('M'), "         "}, {packed(7, 2), -5, plain('M'), "     .05-"},
		{packed(7, 2), 123450, plain('N'), "  1,234.50"}, {packed(7, 2), 0, plain('N'), "       .00"}, {packed(7, 2), -5, plain('N'), "      -.05"}, {packed(7, 2), -9999999, plain('N'), "-99,999.99"},
		{packed(7, 2), 123450, plain('O'), "  1,234.50"}, {packed(7, 2), 0, plain('O'), "          "}, {packed(7, 2), -5, plain('O'), "      -.05"},
		{packed(7, 2), 123450, plain('P'), "  1234.50"}, {packed(7, 2), 0, plain('P'), "      .00"}, {packed(7, 2), -5, plain('P'), "     -.05"},
		{packed(7, 2), 123450, plain('Q'), "  1234.50"}, {packed(7, 2), 0, plain('Q'), "         "}, {packed(7, 2), -123450, plain('Q'), " -1234.50"},
		{packed(7, 2), -123450, plain('X'), "0123450"}, {packed(7, 2), 0, plain('X'), "0000000"}, {packed(7, 2), -123450, plain('Z'), " 123450"}, {packed(7, 2), 0, plain('Z'), "       "},
		{packed(7, 2), -123450, plain('J'), " 1,234.50-"}, {packed(7, 2), -1234567, plain('J'), "12,345.67-"},
		{zoned(5, 2), 0, plain('1'), "   .00"}, {zoned(5, 2), 0, plain('2'), "      "}, {zoned(3, 0), 0, plain('1'), "  0"}, {zoned(1, 0), 0, plain('1'), "0"}, {zoned(1, 0), 0, plain('2'), " "}, {zoned(1, 0), 7, plain('2'), "7"},
		{zoned(4, 0), 0, plain('1'), "    0"}, {zoned(4, 0), 999, plain('1'), "  999"}, {zoned(4, 0), 1000, plain('1'), "1,000"}, {zoned(3, 0), 999, plain('1'), "999"}, {zoned(7, 0), 1000000, plain('1'), "1,000,000"}, {zoned(7, 0), 12345, plain('1'), "   12,345"},
		{zoned(2, 2), 5, plain('1'), ".05"}, {zoned(2, 2), 0, plain('1'), ".00"}, {zoned(2, 2), 0, plain('2'), "   "}, {zoned(2, 2), -50, plain('N'), "-.50"}, {zoned(1, 1), -5, plain('A'), ".5CR"},
		{binary(4, 0), -12, plain('J'), "   12-"}, {binary(9, 4), 123456789, plain('A'), "12,345.6789  "}, {zoned(15, 0), -api.MaxNumber, plain('N'), "-999,999,999,999,999"}, {zoned(15, 0), -1, plain('N'), "                  -1"},
		{zoned(6, 0), 70426, plain('Y'), " 7/04/26"}, {zoned(6, 0), 170426, plain('Y'), "17/04/26"}, {zoned(6, 0), -70426, plain('Y'), " 7/04/26"}, {zoned(6, 0), 426, plain('Y'), " 0/04/26"}, {zoned(6, 0), 0, plain('Y'), " 0/00/00"},
		{zoned(4, 0), 726, plain('Y'), " 7/26"}, {zoned(4, 0), 1226, plain('Y'), "12/26"}, {zoned(8, 0), 7042026, plain('Y'), " 7/04/2026"}, {zoned(8, 0), 20260704, plain('Y'), "20/26/0704"}, {binary(4, 0), 101, plain('Y'), " 1/01"},
		{zoned(5, 2), 45, stars('1'), "***.45"}, {zoned(5, 2), 0, stars('1'), "***.00"}, {zoned(5, 2), 0, stars('2'), "      "}, {zoned(5, 2), 12345, stars('1'), "123.45"}, {zoned(7, 2), -12345, stars('A'), "***123.45CR"}, {zoned(7, 2), 12345, stars('J'), "***123.45 "}, {zoned(5, 0), 0, stars('1'), "*****0"}, {zoned(5, 0), 0, stars('K'), "       "}, {zoned(5, 0), 7, stars('K'), "*****7 "},
		{zoned(5, 2), 45, dollar('1'), "   $.45"}, {zoned(5, 2), 0, dollar('1'), "   $.00"}, {zoned(5, 2), 0, dollar('2'), "       "}, {zoned(5, 2), 12345, dollar('1'), "$123.45"}, {zoned(7, 2), -12345, dollar('A'), "   $123.45CR"}, {zoned(7, 2), 12345, dollar('J'), "   $123.45 "}, {zoned(5, 0), 0, dollar('1'), "     $0"}, {zoned(5, 0), 0, dollar('4'), "      "}, {zoned(2, 2), 5, dollar('1'), "$.05"},
	} {
		if s, e := edit.Edited(x.t, api.Value{N: x.n}, x.e); s != x.s || e != api.OK {
			t.Errorf("Edited(%v, %d, %c %d): %q, %v, not %q", x.t, x.n, x.e.Code, x.e.Fill, s, e, x.s)
		}
		if n, e := edit.WidthOf(x.t, x.e); n != len(x.s) || e != api.OK {
			t.Errorf("WidthOf(%v, %c %d): %d, %v", x.t, x.e.Code, x.e.Fill, n, e)
		}
	}
}

// P2.1: all types, codes and fills.
func TestEditedAll(t *testing.T) {
	for _, x := range allTypes() {
		for _, c := range rightCodes(x) {
			for _, n := range samples(x) {
				for _, n := range []int{n, -n} {
					want := textBy(x, n, c)
					if s, e := edit.Edited(x, api.Value{N: n}, c); s != want || e != api.OK {
						t.Errorf("Edited(%v, %d, %c %d): %q, %v, not %q", x, n, c.Code, c.Fill, s, e, want)
					}
				}
			}
		}
	}
}

// P2.1: the first error of a type and a code.
func TestCodeErrors(t *testing.T) {
	for _, x := range []struct {
		t api.DataType
		e api.EditCode
		w api.Errno
	}{
		{api.DataType{Kind: api.DataKinds, Length: 3}, api.EditCode{Code: '?', Fill: 9}, api.ErrKind}, {packed(0, 0), plain('?'), api.ErrLength}, {packed(16, 0), plain('1'), api.ErrLength}, {binary(5, 0), plain('1'), api.ErrLength}, {zoned(3, 4), plain('?'), api.ErrRange}, {zoned(3, -1), plain('1'), api.ErrRange},
		{char(3), api.EditCode{Code: '?', Fill: 9}, api.ErrType}, {char(3), plain('1'), api.ErrType}, {pointer, plain('1'), api.ErrType}, {char(0), plain('1'), api.ErrLength},
		{zoned(3, 0), api.EditCode{Code: '?', Fill: 9}, api.ErrKind}, {zoned(3, 0), plain(0), api.ErrKind}, {zoned(3, 0), plain('0'), api.ErrKind}, {zoned(3, 0), plain('5'), api.ErrKind}, {zoned(3, 0), plain('E'), api.ErrKind}, {zoned(3, 0), plain('I'), api.ErrKind}, {zoned(3, 0), plain('R'), api.ErrKind}, {zoned(3, 0), plain('W'), api.ErrKind}, {zoned(3, 0), plain('['), api.ErrKind}, {zoned(3, 0), plain('a'), api.ErrKind}, {zoned(3, 0), plain('z'), api.ErrKind}, {zoned(3, 0), plain(255), api.ErrKind},
		{zoned(3, 0), api.EditCode{Code: 'N', Fill: -1}, api.ErrRange}, {zoned(3, 0), api.EditCode{Code: 'Y', Fill: api.FillKinds}, api.ErrRange}, {zoned(3, 0), api.EditCode{Code: '1', Fill: math.MaxInt}, api.ErrRange},
		{zoned(3, 0), stars('N'), api.ErrClash}, {zoned(3, 0), dollar('O'), api.ErrClash}, {zoned(3, 0), stars('P'), api.ErrClash}, {zoned(3, 0), dollar('Q'), api.ErrClash}, {zoned(3, 0), stars('X'), api.ErrClash}, {zoned(3, 0), dollar('X'), api.ErrClash}, {zoned(3, 1), dollar('Y'), api.ErrClash}, {zoned(3, 0), stars('Z'), api.ErrClash},
		{zoned(3, 1), plain('Y'), api.ErrLength}, {zoned(5, 0), plain('Y'), api.ErrLength}, {zoned(7, 0), plain('Y'), api.ErrLength}, {binary(9, 0), plain('Y'), api.ErrLength}, {zoned(2, 0), plain('Y'), api.ErrLength}, {zoned(10, 0), plain('Y'), api.ErrLength},
		{zoned(4, 1), plain('Y'), api.ErrForm}, {zoned(6, 6), plain('Y'), api.ErrForm}, {binary(4, 2), plain('Y'), api.ErrForm},
	} {
		if n, e := edit.WidthOf(x.t, x.e); n != 0 || e != x.w {
			t.Errorf("WidthOf(%v, %v): %d, %v, not %v", x.t, x.e, n, e, x.w)
		}
		if s, e := edit.Edited(x.t, api.Value{N: math.MaxInt, S: "x"}, x.e); s != "" || e != x.w {
			t.Errorf("Edited(%v, %v): %q, %v, not %v", x.t, x.e, s, e, x.w)
		}
		if v, e := edit.Unedited(x.t, "?", x.e); v != (api.Value{}) || e != x.w {
			t.Errorf("Unedited(%v, %v): %v, %v, not %v", x.t, x.e, v, e, x.w)
		}
		if s, e := edit.WordOf(x.t, x.e); s != "" || e != x.w {
			t.Errorf("WordOf(%v, %v): %q, %v, not %v", x.t, x.e, s, e, x.w)
		}
	}
}

// P2.1, P2.2: behind those of the type, the code and the word, the error of the value.
func TestValueErrors(t *testing.T) {
	for _, x := range []struct {
		v api.Value
		e api.Errno
	}{{api.Value{N: 1000}, api.ErrOverflow}, {api.Value{N: -1000}, api.ErrOverflow}, {api.Value{N: math.MinInt}, api.ErrOverflow}, {api.Value{N: 1000, S: "1"}, api.ErrForm}, {api.Value{S: "1"}, api.ErrForm}} {
		if s, e := edit.Edited(zoned(3, 1), x.v, plain('1')); s != "" || e != x.e {
			t.Errorf("Edited(%v): %q, %v", x.v, s, e)
		}
		if s, e := edit.EditedBy(zoned(3, 1), x.v, " 0. "); s != "" || e != x.e {
			t.Errorf("EditedBy(%v): %q, %v", x.v, s, e)
		}
	}
}

// changed calls a function with texts that differ a little from a text.
func changed(s string, call func(s string)) {
	for i := range len(s) {
		for _, c := range []byte("0123456789 *$-+,./&CRx\x00\xff") {
			call(s[:i] + string([]byte{c}) + s[i+1:])
		}
		call(s[:i] + s[i+1:])
		call(s[:i] + " " + s[i:])
		call(s[:i] + "1" + s[i:])
	}
	call(s)
	call(s + " ")
	call(s + "0")
	call("")
}

// readers asserts that exactly the texts of values are read, as the value not below 0, if there is one.
func readers(t *testing.T, x api.DataType, text func(n int) string, read func(s string) (api.Value, api.Errno)) {
	values := map[string]int{}
	for n := -most(x); n <= most(x); n++ {
		values[text(n)] = n
	}
	for s := range values {
		changed(s, func(s string) {
			v, e := read(s)
			if n, ok := values[s]; ok && (v != (api.Value{N: n}) || e != api.OK) || !ok && (v != (api.Value{}) || e != api.ErrSyntax) {
				t.Errorf("%v, %q: %v, %v (a text: %v)", x, s, v, e, ok)
			}
		})
	}
}

// P2.1: exactly the texts of values are read.
func TestUneditedAll(t *testing.T) {
	for _, x := range []api.DataType{zoned(1, 0), packed(1, 1), zoned(2, 0), packed(2, 1), zoned(2, 2)} {
		for _, c := range rightCodes(x) {
			readers(t, x, func(n int) string { return textBy(x, n, c) }, func(s string) (api.Value, api.Errno) { return edit.Unedited(x, s, c) })
		}
	}
}

// P2.1: values with texts of several codes, and texts of none.
func TestUnedited(t *testing.T) {
	for _, x := range []struct {
		t api.DataType
		s string
		e api.EditCode
		n int
		w api.Errno
	}{
		{packed(7, 2), " 1,234.50-", plain('J'), -123450, api.OK}, {packed(7, 2), " 1,234.50 ", plain('J'), 123450, api.OK}, {packed(7, 2), "      .05CR", plain('A'), -5, api.OK}, {packed(7, 2), "      -.05", plain('N'), -5, api.OK}, {packed(7, 2), " 1,234.50", plain('1'), 123450, api.OK}, {packed(7, 2), "          ", plain('K'), 0, api.OK}, {packed(7, 2), "      .00 ", plain('J'), 0, api.OK},
		{zoned(6, 0), " 7/04/26", plain('Y'), 70426, api.OK}, {zoned(5, 0), "00012", plain('X'), 12, api.OK}, {zoned(5, 0), "   12", plain('Z'), 12, api.OK}, {zoned(5, 2), "***.45", stars('1'), 45, api.OK}, {zoned(5, 2), "   $.45", dollar('1'), 45, api.OK}, {zoned(15, 0), "-999,999,999,999,999", plain('N'), -api.MaxNumber, api.OK},
		{packed(7, 2), "01,234.50 ", plain('J'), 0, api.ErrSyntax}, {packed(7, 2), " 1 234.50 ", plain('J'), 0, api.ErrSyntax}, {packed(7, 2), " 1,234.50", plain('J'), 0, api.ErrSyntax}, {packed(7, 2), " 1,234.50CR", plain('J'), 0, api.ErrSyntax}, {packed(7, 2), "      .00-", plain('J'), 0, api.ErrSyntax}, {packed(7, 2), "      .00 ", plain('K'), 0, api.ErrSyntax}, {packed(7, 2), "          ", plain('J'), 0, api.ErrSyntax}, {packed(7, 2), "1234567890", plain('J'), 0, api.ErrSyntax}, {packed(7, 2), "-     .05", plain('P'), 0, api.ErrSyntax},
		{zoned(6, 0), "07/04/26", plain('Y'), 0, api.ErrSyntax}, {zoned(6, 0), " 7/ 4/26", plain('Y'), 0, api.ErrSyntax}, {zoned(5, 0), "   12", plain('X'), 0, api.ErrSyntax}, {zoned(5, 0), "00012", plain('Z'), 0, api.ErrSyntax}, {zoned(5, 2), "   .45", stars('1'), 0, api.ErrSyntax}, {zoned(5, 2), "$  .45", dollar('1'), 0, api.ErrSyntax}, {zoned(5, 2), "$    .45", dollar('1'), 0, api.ErrSyntax}, {zoned(5, 2), "    .45", dollar('1'), 0, api.ErrSyntax},
		{zoned(5, 2), "", plain('1'), 0, api.ErrSyntax}, {zoned(15, 0), strings.Repeat("9", 19), plain('1'), 0, api.ErrSyntax}, {zoned(15, 0), strings.Repeat("9", 100000), plain('X'), 0, api.ErrSyntax},
	} {
		if v, e := edit.Unedited(x.t, x.s, x.e); v != (api.Value{N: x.n}) || e != x.w {
			t.Errorf("Unedited(%v, %q, %c %d): %v, %v", x.t, x.s, x.e.Code, x.e.Fill, v, e)
		}
	}
}
