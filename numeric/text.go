package numeric

import (
	"strconv"
	"strings"

	"midrange/api"
)

// maxNumberText is how many bytes the text of a number may have.
const maxNumberText = 40

// FormatNumber returns the text of a number.
func FormatNumber(x api.Number) (string, api.Errno) {
	if e := CheckNumber(x); e != api.OK {
		return "", e
	}
	digits := strconv.Itoa(amountIn(x.N))
	if len(digits) <= x.Scale {
		digits = strings.Repeat("0", x.Scale+1-len(digits)) + digits
	}
	point := len(digits) - x.Scale
	text := digits[:point]
	if x.Scale > 0 {
		text += "." + digits[point:]
	}
	if x.N < 0 {
		text = "-" + text
	}
	return text, api.OK
}

// ParseNumber returns the number with a text, and the length of the text. Beside an error it is the offset of what is wrong.
func ParseNumber(s string) (api.Number, int, api.Errno) {
	if len(s) > maxNumberText {
		return api.Number{}, 0, api.ErrLarge
	}
	if s == "" {
		return api.Number{}, 0, api.ErrEmpty
	}
	if at, e := checkText(s); e != api.OK {
		return api.Number{}, at, e
	}
	x, e := numberIn(s)
	if e != api.OK {
		return api.Number{}, 0, e
	}
	return x, len(s), api.OK
}

// checkText returns ErrSyntax or ErrEnd with the offset, if s, which is not empty, is not the text of a number.
func checkText(s string) (int, api.Errno) {
	at := 0
	if s[0] == '-' {
		at = 1
	}
	end := digitsEnd(s, at)
	if end == at {
		return at, stopOf(s, at)
	}
	if s[at] == '0' { // no digit stands behind a first 0
		end = at + 1
	}
	if end == len(s) {
		return 0, api.OK
	}
	if s[end] != '.' {
		return end, api.ErrSyntax
	}
	return checkDecimals(s, end+1)
}

// checkDecimals checks the digits behind the point, which begin at an offset and go on to the end.
func checkDecimals(s string, at int) (int, api.Errno) {
	end := digitsEnd(s, at)
	if end == at || end < len(s) {
		return end, stopOf(s, end)
	}
	return 0, api.OK
}

// digitsEnd returns the offset behind the digits that begin at an offset.
func digitsEnd(s string, at int) int {
	for at < len(s) && s[at] >= '0' && s[at] <= '9' {
		at++
	}
	return at
}

// stopOf says why a text is wrong at an offset: it ends there, or has a byte that cannot stand there.
func stopOf(s string, at int) api.Errno {
	if at == len(s) {
		return api.ErrEnd
	}
	return api.ErrSyntax
}

// numberIn returns the number with a text that is one.
func numberIn(s string) (api.Number, api.Errno) {
	amount, below := strings.CutPrefix(s, "-")
	whole, decimals, _ := strings.Cut(amount, ".")
	counted := strings.TrimPrefix(whole, "0") + decimals
	if len(counted) > api.MaxDigits {
		return api.Number{}, api.ErrOverflow
	}
	n := 0
	for i := range len(counted) {
		n = 10*n + int(counted[i]-'0')
	}
	if below {
		n = -n
	}
	return api.Number{N: n, Scale: len(decimals)}, api.OK
}
