package edit_test

import (
	"fmt"
	"math/rand"
	"strings"
	"testing"

	"midrange/api"
	"midrange/edit"
)

// P2.2: the parts of words.
func TestPartsOf(t *testing.T) {
	for _, x := range []struct {
		word string
		p    api.EditParts
	}{
		{"  0.  CR", api.EditParts{Body: 6, Status: 6, Stop: 2}}, {" ", api.EditParts{Body: 1, Status: api.None, Stop: api.None}}, {"0", api.EditParts{Body: 1, Status: api.None, Stop: 0}}, {"*", api.EditParts{Body: 1, Status: api.None, Stop: 0, Asterisk: true}},
		{"  *.  -", api.EditParts{Body: 6, Status: 6, Stop: 2, Asterisk: true}}, {"   *", api.EditParts{Body: 4, Status: api.None, Stop: 3, Asterisk: true}}, {" 0*", api.EditParts{Body: 2, Status: api.None, Stop: 1}}, {" *0 -", api.EditParts{Body: 4, Status: 4, Stop: 1, Asterisk: true}},
		{"  , x0y", api.EditParts{Body: 6, Status: api.None, Stop: 5}}, {"  &-&CR", api.EditParts{Body: 2, Status: 3, Stop: api.None}}, {"  &CR&-", api.EditParts{Body: 2, Status: 3, Stop: api.None}}, {"-  CR ", api.EditParts{Body: 6, Status: api.None, Stop: api.None}}, {"CR 0CR-", api.EditParts{Body: 4, Status: 4, Stop: 3}},
		{" C R", api.EditParts{Body: 3, Status: api.None, Stop: api.None}}, {" CxR", api.EditParts{Body: 1, Status: api.None, Stop: api.None}}, {" C", api.EditParts{Body: 1, Status: api.None, Stop: api.None}}, {" CCR", api.EditParts{Body: 1, Status: 2, Stop: api.None}}, {" cr", api.EditParts{Body: 1, Status: api.None, Stop: api.None}}, {" ~!", api.EditParts{Body: 1, Status: api.None, Stop: api.None}},
		{strings.Repeat(" ", api.MaxEdit), api.EditParts{Body: api.MaxEdit, Status: api.None, Stop: api.None}}, {strings.Repeat("x", api.MaxEdit-2) + " -", api.EditParts{Body: api.MaxEdit - 1, Status: api.MaxEdit - 1, Stop: api.None}},
	} {
		if p, at, e := edit.PartsOf(x.word); p != x.p || at != 0 || e != api.OK {
			t.Errorf("PartsOf(%q): %v, %d, %v", x.word, p, at, e)
		}
	}
}

// P2.2: words that are none; EditedBy and UneditedBy have the same errors.
func TestPartsOfErrors(t *testing.T) {
	for _, x := range []struct {
		word string
		at   int
		e    api.Errno
	}{
		{"", 0, api.ErrEmpty}, {strings.Repeat(" ", api.MaxEdit+1), 0, api.ErrLarge}, {strings.Repeat("\n", api.MaxEdit+1), 0, api.ErrLarge}, {"\x1f", 0, api.ErrSyntax}, {" \x7f", 1, api.ErrSyntax}, {"x\x00\x00", 1, api.ErrSyntax}, {"  0\xff\n", 3, api.ErrSyntax}, {" é", 1, api.ErrSyntax},
		{"x", 0, api.ErrShape}, {"&", 0, api.ErrShape}, {"123.CR-", 0, api.ErrShape}, {"-", 0, api.ErrShape},
	} {
		if p, at, e := edit.PartsOf(x.word); p != (api.EditParts{}) || at != x.at || e != x.e {
			t.Errorf("PartsOf(%q): %v, %d, %v", x.word, p, at, e)
		}
		if s, e := edit.EditedBy(zoned(1, 0), api.Value{N: 10, S: "x"}, x.word); s != "" || e != x.e {
			t.Errorf("EditedBy(%q): %q, %v", x.word, s, e)
		}
		if v, e := edit.UneditedBy(zoned(1, 0), "?", x.word); v != (api.Value{}) || e != x.e {
			t.Errorf("UneditedBy(%q): %v, %v", x.word, v, e)
		}
	}
}

// P2.2: the errors of types come before those of words, and those before the ones of values and texts.
func TestWordErrors(t *testing.T) {
	for _, x := range []struct {
		t    api.DataType
		word string
		e    api.Errno
	}{
		{api.DataType{Kind: -1}, "", api.ErrKind}, {zoned(0, 0), "", api.ErrLength}, {zoned(2, 3), "x", api.ErrRange}, {char(1), "", api.ErrType}, {char(1), " ", api.ErrType}, {pointer, "\x00", api.ErrType},
		{zoned(2, 0), " ", api.ErrLength}, {zoned(2, 0), "   ", api.ErrLength}, {zoned(2, 0), "  0", api.ErrLength}, {zoned(2, 0), "  *", api.ErrLength}, {zoned(2, 0), " x", api.ErrLength}, {zoned(2, 0), " &", api.ErrLength}, {zoned(1, 0), "00 ", api.ErrLength},
	} {
		if s, e := edit.EditedBy(x.t, api.Value{N: 100, S: "x"}, x.word); s != "" || e != x.e {
			t.Errorf("EditedBy(%v, %q): %q, %v", x.t, x.word, s, e)
		}
		if v, e := edit.UneditedBy(x.t, "?", x.word); v != (api.Value{}) || e != x.e {
			t.Errorf("UneditedBy(%v, %q): %v, %v", x.t, x.word, v, e)
		}
	}
}

// P2.2: the texts by words.
func TestEditedBy(t *testing.T) {
	for _, x := range []struct {
		t    api.DataType
		n    int
		word string
		s    string
	}{
		{zoned(5, 0), 45, "  0.  CR", "   .45  "}, {zoned(5, 2), -12345, "  0.  CR", "123.45CR"}, {zoned(5, 0), 0, "  0.  CR", "   .00  "}, {packed(5, 5), 12345, "  0.  CR", "123.45  "}, {zoned(5, 0), 1234, "  0.  CR", " 12.34  "},
		{zoned(5, 0), 0, "   .  -", "       "}, {zoned(5, 0), -7, "   .  -", "     7-"}, {zoned(5, 0), 700, "   .  -", "  7.00 "}, {zoned(5, 0), 70, "   .  -", "    70 "},
		{zoned(5, 0), 45, "  *.  CR", "***.45  "}, {zoned(5, 0), 0, "  *.  CR", "***.00  "}, {zoned(5, 0), 12345, "  *.  CR", "123.45  "}, {zoned(6, 0), 0, " ,  *,  ", "*****,00"}, {zoned(7, 0), 12345, " ,  *,   ", "***12,345"},
		{zoned(6, 0), 70426, "0 /  /  ", " 7/04/26"}, {zoned(6, 0), 426, "0 /  /  ", " 0/04/26"}, {zoned(2, 0), 5, "0 ", " 5"}, {zoned(2, 0), 0, "0 ", " 0"}, {zoned(2, 0), 0, " 0", "  "}, {zoned(2, 0), 0, "  ", "  "}, {zoned(2, 0), 0, " *", "**"}, {zoned(2, 0), 0, "* ", "*0"}, {zoned(2, 0), 10, " *", "10"}, {zoned(2, 0), 1, " *", "*1"},
		{zoned(2, 0), 5, "$ & ", "   5"}, {zoned(2, 0), 35, "$ & ", " 3 5"}, {zoned(3, 0), 35, " &*x ", "* 3x5"}, {zoned(3, 0), 5, " &*x ", "* *x5"}, {zoned(3, 0), 5, "& &* ", " * *5"}, {zoned(2, 0), 0, "x & &y-z", "     y z"}, {zoned(2, 0), 0, "  ,&x", "  , x"},
		{zoned(2, 0), -35, "  &CR&-&x", "35 CR - x"}, {zoned(2, 0), 35, "  &CR&-&x", "35    - x"}, {zoned(2, 0), 0, "  &CR&-&x", "      - x"}, {zoned(2, 0), -1, "  -CR", " 1-CR"}, {zoned(2, 0), 1, "  -CR", " 1 CR"}, {zoned(2, 0), -1, " CR- ", "    1"}, {zoned(2, 0), -12, " CR- ", "1CR-2"}, {zoned(2, 0), -12, "  x", "12x"},
		{zoned(2, 0), 12, " 3 ", "132"}, {zoned(2, 0), 2, " 3 ", "  2"}, {zoned(2, 0), 2, "030 ", " 302"}, {zoned(2, 0), 32, "0*0 5", "3*025"}, {zoned(2, 0), 32, "*0 0", "3020"}, {zoned(1, 0), 0, "CR0", "   "}, {zoned(1, 0), 7, "CR0", "  7"},
		{binary(4, 2), -1, "   0-", "   1-"}, {binary(9, 9), 123456789, "   -  -    ", "123-45-6789"}, {zoned(15, 0), -api.MaxNumber, "   ,   ,   ,   ,  0-", "999,999,999,999,999-"},
	} {
		if s, e := edit.EditedBy(x.t, api.Value{N: x.n}, x.word); s != x.s || e != api.OK {
			t.Errorf("EditedBy(%v, %d, %q): %q, %v, not %q", x.t, x.n, x.word, s, e, x.s)
		}
		n := x.n
		if p, _, _ := edit.PartsOf(x.word); p.Status == api.None {
			n = max(n, -n)
		}
		if v, e := edit.UneditedBy(x.t, x.s, x.word); v != (api.Value{N: n}) || e != api.OK {
			t.Errorf("UneditedBy(%v, %q, %q): %v, %v", x.t, x.s, x.word, v, e)
		}
	}
}

// P2.2: texts of no value.
func TestUneditedByErrors(t *testing.T) {
	for _, x := range []struct {
		word, s string
	}{
		{"  0.  CR", ""}, {"  0.  CR", "   .45 "}, {"  0.  CR", "   .45   "}, {"  0.  CR", "  0.45  "}, {"  0.  CR", "   . 5  "}, {"  0.  CR", "   .00CR"}, {"  0.  CR", "   .45C "}, {"  0.  CR", "   .45- "}, {"  0.  CR", "***.45  "}, {"  0.  CR", "  1,45  "}, {"  0.  CR", "x  .45  "},
		{"     ", "00000"}, {"     ", "    0"}, {"     ", "1 2 3"}, {"     ", "   -1"}, {"  *  ", "   00"}, {"  *  ", "**000"}, {"  *  ", "*****"}, {"  *  ", "**  0"},
	} {
		if v, e := edit.UneditedBy(zoned(5, 0), x.s, x.word); v != (api.Value{}) || e != api.ErrSyntax {
			t.Errorf("UneditedBy(%q, %q): %v, %v", x.s, x.word, v, e)
		}
	}
}

// wordText computes a text by a word: the suppression ends at the first digit that is not 0, or behind the stop character.
func wordText(length, n int, word string) string {
	digits := fmt.Sprintf("%0*d", length, max(n, -n))
	stop := strings.IndexAny(word, "0*")
	body := max(strings.LastIndex(word, " "), stop) + 1
	at := map[int]byte{} // the digits by their places
	end := body
	for i := range body {
		if word[i] == ' ' || i == stop {
			at[i] = digits[len(at)]
			if at[i] != '0' {
				end = min(end, i)
			}
		}
	}
	if stop >= 0 {
		end = min(end, stop+1)
	}
	text := ""
	for i := range body {
		switch {
		case word[i] == '&':
			text += " "
		case i < end && stop >= 0 && word[stop] == '*':
			text += "*"
		case i < end:
			text += " "
		case at[i] != 0:
			text += string(at[i])
		default:
			text += word[i : i+1]
		}
	}
	rest := word[body:]
	if n >= 0 {
		credit, minus := strings.Index(rest, "CR"), strings.Index(rest, "-")
		if minus >= 0 && (credit < 0 || minus < credit) {
			rest = strings.Replace(rest, "-", " ", 1)
		} else {
			rest = strings.Replace(rest, "CR", "  ", 1)
		}
	}
	return text + strings.ReplaceAll(rest, "&", " ")
}

// someWords returns words with one to three digit positions, the same in each run.
func someWords(count int) []string {
	q := rand.New(rand.NewSource(2))
	var l []string
	for len(l) < count {
		word := make([]byte, 1+q.Intn(8))
		for i := range word {
			word[i] = "    00**&&,.-CR5$x"[q.Intn(17)]
		}
		s := strings.ReplaceAll(string(word), "C", "CR")
		if n := positions(s); n >= 1 && n <= 3 {
			l = append(l, s)
		}
	}
	return l
}

func positions(word string) int {
	n := strings.Count(word, " ")
	if strings.ContainsAny(word, "0*") {
		n++
	}
	return n
}

// P2.2: words of all kinds.
func TestEditedByAll(t *testing.T) {
	for _, word := range someWords(2000) {
		x := zoned(positions(word), 0)
		for n := -most(x); n <= most(x); n++ {
			want := wordText(x.Length, n, word)
			if s, e := edit.EditedBy(x, api.Value{N: n}, word); s != want || e != api.OK {
				t.Fatalf("EditedBy(%d, %q): %q, %v, not %q", n, word, s, e, want)
			}
		}
	}
}

// P2.2: exactly the texts of values are read.
func TestUneditedByAll(t *testing.T) {
	for _, word := range someWords(300) {
		if x := zoned(positions(word), 0); x.Length < 3 {
			readers(t, x, func(n int) string { return wordText(x.Length, n, word) }, func(s string) (api.Value, api.Errno) { return edit.UneditedBy(x, s, word) })
		}
	}
}

// P2.3: the words of codes.
func TestWordOf(t *testing.T) {
	for _, x := range []struct {
		t    api.DataType
		e    api.EditCode
		word string
	}{
		{packed(7, 2), plain('1'), "  ,  0.  "}, {packed(7, 2), stars('1'), "  ,  *.  "}, {packed(7, 2), plain('3'), "    0.  "}, {packed(7, 2), plain('A'), "  ,  0.  CR"}, {packed(7, 2), stars('C'), "    *.  CR"}, {packed(7, 2), plain('J'), "  ,  0.  -"}, {packed(7, 2), plain('L'), "    0.  -"},
		{zoned(7, 0), plain('1'), " ,   , 0 "}, {zoned(7, 0), stars('J'), " ,   , * -"}, {zoned(7, 0), plain('2'), " ,   ,   "}, {zoned(7, 0), plain('4'), "       "}, {zoned(7, 0), plain('B'), " ,   ,   CR"}, {zoned(7, 0), plain('D'), "       CR"}, {zoned(7, 0), plain('K'), " ,   ,   -"}, {zoned(7, 0), plain('M'), "       -"},
		{zoned(2, 0), plain('1'), "0 "}, {zoned(2, 0), stars('C'), "* CR"}, {zoned(2, 1), plain('A'), "0. CR"}, {zoned(3, 0), plain('1'), " 0 "}, {zoned(4, 0), plain('1'), " , 0 "}, {zoned(4, 1), plain('1'), "  0. "}, {zoned(5, 1), plain('1'), " ,  0. "}, {zoned(1, 0), plain('2'), " "}, {zoned(1, 0), plain('K'), " -"}, {binary(4, 3), plain('J'), "0.   -"},
	} {
		if s, e := edit.WordOf(x.t, x.e); s != x.word || e != api.OK {
			t.Errorf("WordOf(%v, %c %d): %q, %v, not %q", x.t, x.e.Code, x.e.Fill, s, e, x.word)
		}
	}
}

// P2.3: codes that have no word.
func TestWordOfRefused(t *testing.T) {
	for _, x := range []struct {
		t    api.DataType
		list []api.EditCode
	}{
		{zoned(4, 0), []api.EditCode{dollar('1'), dollar('2'), dollar('A'), dollar('M'), plain('N'), plain('O'), plain('P'), plain('Q'), plain('X'), plain('Y'), plain('Z'), stars('2'), stars('4'), stars('B'), stars('D'), stars('K'), stars('M')}},
		{zoned(4, 1), []api.EditCode{plain('2'), plain('4'), plain('B'), plain('D'), plain('K'), plain('M'), stars('2'), dollar('2'), dollar('1')}},
		{zoned(4, 4), []api.EditCode{plain('1'), plain('3'), plain('A'), plain('C'), plain('J'), plain('L'), stars('1'), stars('L'), plain('2'), plain('M')}},
		{zoned(1, 0), []api.EditCode{plain('1'), plain('3'), plain('A'), plain('C'), plain('J'), plain('L'), stars('1'), stars('2')}},
		{zoned(1, 1), []api.EditCode{plain('1'), plain('2'), plain('K'), stars('J')}},
	} {
		for _, c := range x.list {
			if s, e := edit.WordOf(x.t, c); s != "" || e != api.ErrRefused {
				t.Errorf("WordOf(%v, %c %d): %q, %v", x.t, c.Code, c.Fill, s, e)
			}
		}
	}
}

// P2.3: by the word of a code values have the texts that they have by the code; all codes of which the document does not say otherwise have one.
func TestWordLikeCode(t *testing.T) {
	for _, x := range allTypes() {
		for _, c := range rightCodes(x) {
			refused := c.Fill == api.FillDollar || !in(withFills, c.Code)
			if in(zeroPrinted, c.Code) {
				refused = refused || x.Scale == x.Length || x.Length == 1
			} else {
				refused = refused || x.Scale > 0 || c.Fill == api.FillAsterisk
			}
			word, e := edit.WordOf(x, c)
			if refused && (word != "" || e != api.ErrRefused) || !refused && e != api.OK {
				t.Errorf("WordOf(%v, %c %d): %q, %v", x, c.Code, c.Fill, word, e)
			}
			if e == api.OK {
				likeCode(t, x, c, word)
			}
		}
	}
}

func likeCode(t *testing.T, x api.DataType, c api.EditCode, word string) {
	for _, n := range samples(x) {
		for _, n := range []int{n, -n} {
			s, e := edit.Edited(x, api.Value{N: n}, c)
			if r, f := edit.EditedBy(x, api.Value{N: n}, word); r != s || e != api.OK || f != api.OK {
				t.Errorf("%v, %d, %c %d: %q, %v; by %q %q, %v", x, n, c.Code, c.Fill, s, e, word, r, f)
			}
		}
	}
}

// P2.3: no word has the texts of the codes that are refused because of the type or the asterisks. (But of a single digit, before which no asterisk can stand.)
func TestNoWordExists(t *testing.T) {
	for _, x := range []struct {
		t api.DataType
		e api.EditCode
	}{{zoned(1, 0), plain('1')}, {zoned(1, 0), stars('1')}, {zoned(1, 1), plain('1')}, {zoned(1, 1), stars('1')}, {zoned(1, 1), plain('2')}, {zoned(2, 0), stars('2')}, {zoned(2, 1), plain('2')}, {zoned(2, 2), plain('1')}, {zoned(2, 1), stars('2')}} {
		width, e := edit.WidthOf(x.t, x.e)
		if e != api.OK {
			t.Errorf("WidthOf(%v): %v", x.t, e)
		}
		for _, word := range wordsWith(width) {
			if alikeAll(x.t, x.e, word) {
				t.Errorf("%v, %c %d: %q", x.t, x.e.Code, x.e.Fill, word)
			}
		}
	}
}

func wordsWith(width int) []string {
	l := []string{""}
	for range width {
		var longer []string
		for _, s := range l {
			for _, c := range " 0*&.,-CRx1" {
				longer = append(longer, s+string(c))
			}
		}
		l = longer
	}
	return l
}

func alikeAll(x api.DataType, c api.EditCode, word string) bool {
	for n := -most(x); n <= most(x); n++ {
		s, _ := edit.Edited(x, api.Value{N: n}, c)
		if r, e := edit.EditedBy(x, api.Value{N: n}, word); r != s || e != api.OK {
			return false
		}
	}
	return true
}
