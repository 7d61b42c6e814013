package edit

import (
	"strings"

	"midrange/api"
	"midrange/numeric"
)

const (
	amountCodes = "1234ABCDJKLMNOPQ" // in fours that have one sign; of each four the first two have commas, the first and the third one print a zero
	allDigits   = 'X'
	dateCode    = 'Y'
	bareDigits  = 'Z'
	allCodes    = amountCodes + "XYZ"
)

const notZero = "123456789"

// style is what a code prints beside the digits.
type style struct {
	commas      bool
	zeroPrinted bool
	leadingSign bool
	behind      string // what a value below 0 has behind the digits
}

func styleOf(code byte) style {
	at := strings.IndexByte(amountCodes, code)
	out := style{commas: at%4 < 2, zeroPrinted: at%2 == 0}
	switch at / 4 {
	case 1:
		out.behind = credit
	case 2:
		out.behind = minus
	case 3:
		out.leadingSign = true
	}
	return out
}

// isAmountCode says whether a code is none of X, Y, Z.
func isAmountCode(code byte) bool {
	return strings.IndexByte(amountCodes, code) >= 0
}

// goesWithFill says whether a code goes with another fill than FillBlank.
func goesWithFill(code byte) bool {
	return isAmountCode(code) && !styleOf(code).leadingSign
}

// checkCode returns the error of a type and a code.
func checkCode(t api.DataType, e api.EditCode) api.Errno {
	if err := checkNumeric(t); err != api.OK {
		return err
	}
	if strings.IndexByte(allCodes, e.Code) < 0 {
		return api.ErrKind
	}
	if e.Fill < 0 || e.Fill >= api.FillKinds {
		return api.ErrRange
	}
	if e.Fill != api.FillBlank && !goesWithFill(e.Code) {
		return api.ErrClash
	}
	if e.Code == dateCode {
		return checkDate(t)
	}
	return api.OK
}

func checkDate(t api.DataType) api.Errno {
	if t.Length != 4 && t.Length != 6 && t.Length != 8 {
		return api.ErrLength
	}
	if t.Scale > 0 {
		return api.ErrForm
	}
	return api.OK
}

// WidthOf returns how many characters the texts by a code have: all have as many as the text of 0.
func WidthOf(t api.DataType, e api.EditCode) (int, api.Errno) {
	if err := checkCode(t, e); err != api.OK {
		return 0, err
	}
	return len(edited(t, 0, e)), api.OK
}

// Edited returns the text of a value by a code.
func Edited(t api.DataType, v api.Value, e api.EditCode) (string, api.Errno) {
	if err := checkCode(t, e); err != api.OK {
		return "", err
	}
	if err := numeric.CheckValue(t, v); err != api.OK {
		return "", err
	}
	return edited(t, v.N, e), api.OK
}

func edited(t api.DataType, n int, e api.EditCode) string {
	digits := digitsOf(t, n)
	switch e.Code {
	case allDigits:
		return digits
	case dateCode:
		return dated(digits)
	case bareDigits:
		return suppressed(digits, notZero, len(digits))
	}
	s := styleOf(e.Code)
	return fronted(signed(t, digits, n, s), n, e.Fill, s)
}

func dated(digits string) string {
	out := digits[:2] + "/" + digits[2:4]
	if len(digits) > 4 {
		out += "/" + digits[4:]
	}
	return suppressed(out, notZero, 1)
}

// suppressed makes zeros and commas blanks up to the first one of some characters; at most so many characters.
func suppressed(text, stops string, most int) string {
	first := strings.IndexAny(text, stops)
	if first < 0 || first > most {
		first = most
	}
	return blanks(first) + text[first:]
}

// signed returns the digits with what stands between and behind them.
func signed(t api.DataType, digits string, n int, s style) string {
	text := spread(t, digits, s.commas)
	if n == 0 && !s.zeroPrinted {
		return blanks(len(text) + len(s.behind))
	}
	text = suppressed(text, "."+notZero, len(text)-1) // without a point the last digit stays, of a zero, too
	if n < 0 {
		return text + s.behind
	}
	return text + blanks(len(s.behind))
}

// fronted returns a text with what stands before its first character that is no blank.
func fronted(text string, n, fill int, s style) string {
	first := len(text) - len(strings.TrimLeft(text, " "))
	switch {
	case s.leadingSign && n >= 0:
		return " " + text
	case s.leadingSign:
		return blanks(first) + minus + text[first:]
	case fill == api.FillDollar && first == len(text):
		return " " + text
	case fill == api.FillDollar:
		return blanks(first) + "$" + text[first:]
	case fill == api.FillAsterisk && first < len(text):
		return strings.Repeat("*", first) + text[first:]
	}
	return text
}

// Unedited returns the value with a text by a code.
func Unedited(t api.DataType, s string, e api.EditCode) (api.Value, api.Errno) {
	if err := checkCode(t, e); err != api.OK {
		return api.Value{}, err
	}
	return readBack(s, amountIn(t, s), func(n int) string { return edited(t, n, e) })
}

// amountIn returns the number that the first digits of a text make, as many as the type has: a text with more of them is none.
func amountIn(t api.DataType, s string) int {
	amount, count := 0, 0
	for i := 0; i < len(s) && count < t.Length; i++ {
		if isDigit(s[i]) {
			amount = 10*amount + int(s[i]-'0')
			count++
		}
	}
	return amount
}
