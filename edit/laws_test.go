package edit_test

import (
	"math"
	"strconv"
	"strings"
	"testing"

	"midrange/api"
	"midrange/edit"
)

// P2.4, P2.5: all values of all types have texts of one width by a code, which are read back, and have their digits.
func TestCodesBack(t *testing.T) {
	for _, x := range allTypes() {
		for _, c := range rightCodes(x) {
			width, e := edit.WidthOf(x, c)
			if e != api.OK {
				t.Errorf("WidthOf(%v, %c %d): %v", x, c.Code, c.Fill, e)
			}
			hasSign := in(withCredit+withMinus+minusFirst, c.Code)
			for _, n := range samples(x) {
				for _, n := range []int{n, -n} {
					s, _ := edit.Edited(x, api.Value{N: n}, c)
					v, e := edit.Unedited(x, s, c)
					back(t, s, n, v, e, width, hasSign)
				}
			}
		}
	}
}

// P2.4, P2.5: the same by a word.
func TestWordsBack(t *testing.T) {
	for _, x := range allTypes() {
		blank := strings.Repeat(" ", x.Length)
		for _, word := range []string{blank, blank + "&CR", blank + "-", "0" + blank[1:] + "-", "*" + blank[1:], blank[1:] + "*&CR", blank[1:] + "0", " ,&" + blank[1:], "-" + blank + "/-"} {
			p, _, e := edit.PartsOf(word)
			if e != api.OK {
				t.Errorf("PartsOf(%q): %v", word, e)
			}
			for _, n := range samples(x) {
				for _, n := range []int{n, -n} {
					s, _ := edit.EditedBy(x, api.Value{N: n}, word)
					v, e := edit.UneditedBy(x, s, word)
					back(t, s, n, v, e, len(word), p.Status != api.None)
				}
			}
		}
	}
}

// back asserts that a text has a width and the digits of n, and was read as n, or as its amount, if it shows no sign.
func back(t *testing.T, s string, n int, v api.Value, e api.Errno, width int, hasSign bool) {
	amount := max(n, -n)
	digits := strings.TrimLeft(strings.NewReplacer(" ", "", ",", "", ".", "", "/", "", "-", "", "CR", "", "*", "", "$", "").Replace(s), "0")
	if amount == 0 && digits != "" || amount != 0 && digits != strconv.Itoa(amount) || len(s) != width {
		t.Errorf("%d: %q, of the width %d", n, s, width)
	}
	want := n
	if !hasSign {
		want = amount
	}
	if v != (api.Value{N: want}) || e != api.OK {
		t.Errorf("%d: %q is read as %v, %v", n, s, v, e)
	}
}

// R1, R2: every call returns, and beside an error there is nothing else.
func TestEveryCallReturns(t *testing.T) {
	edges := []int{math.MinInt, -1, 0, 1, 4, 9, 15, 16, math.MaxInt}
	for _, kind := range edges {
		for _, length := range edges {
			for _, scale := range edges {
				for _, code := range []byte("\x0012AJNXYZ?") {
					callCodes(t, api.DataType{Kind: kind, Length: length, Scale: scale}, code)
				}
			}
		}
	}
	for c := range 256 {
		callCodes(t, packed(6, 0), byte(c))
		for _, word := range []string{"", " ", "0", "* ", "CR", "&-", strings.Repeat(" ", 15)} {
			callWords(t, word+string([]byte{byte(c)}))
			callWords(t, string([]byte{byte(c)})+word)
		}
	}
}

func callCodes(t *testing.T, x api.DataType, code byte) {
	for _, fill := range []int{math.MinInt, -1, 0, 1, 2, 3} {
		c := api.EditCode{Code: code, Fill: fill}
		if n, e := edit.WidthOf(x, c); (e == api.OK) != (n > 0) {
			t.Errorf("WidthOf(%v, %v): %d, %v", x, c, n, e)
		}
		for _, n := range []int{math.MinInt, -1, 0, math.MaxInt} {
			if s, e := edit.Edited(x, api.Value{N: n}, c); (e == api.OK) != (s != "") {
				t.Errorf("Edited(%v, %d, %v): %q, %v", x, n, c, s, e)
			}
		}
		for _, s := range []string{"", "\xff", "-", "     9", strings.Repeat("9", 25)} {
			if v, e := edit.Unedited(x, s, c); e != api.OK && v != (api.Value{}) {
				t.Errorf("Unedited(%v, %q, %v): %v, %v", x, s, c, v, e)
			}
		}
		if s, e := edit.WordOf(x, c); (e == api.OK) != (s != "") {
			t.Errorf("WordOf(%v, %v): %q, %v", x, c, s, e)
		}
	}
}

func callWords(t *testing.T, word string) {
	if p, _, e := edit.PartsOf(word); e != api.OK && p != (api.EditParts{}) {
		t.Errorf("PartsOf(%q): %v, %v", word, p, e)
	}
	for _, x := range []api.DataType{zoned(1, 0), zoned(2, 1), zoned(15, 0), zoned(16, 0), char(1)} {
		if s, e := edit.EditedBy(x, api.Value{N: 7}, word); (e == api.OK) != (s != "") {
			t.Errorf("EditedBy(%v, %q): %q, %v", x, word, s, e)
		}
		if v, e := edit.UneditedBy(x, word, word); e != api.OK && v != (api.Value{}) {
			t.Errorf("UneditedBy(%v, %q): %v, %v", x, word, v, e)
		}
	}
}
