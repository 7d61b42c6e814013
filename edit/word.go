package edit

import (
	"strings"

	"midrange/api"
	"midrange/numeric"
)

// PartsOf returns the parts of an edit word. Beside ErrSyntax the number is the index of the character that is wrong.
func PartsOf(word string) (api.EditParts, int, api.Errno) {
	if word == "" {
		return api.EditParts{}, 0, api.ErrEmpty
	}
	if len(word) > api.MaxEdit {
		return api.EditParts{}, 0, api.ErrLarge
	}
	for i := range len(word) {
		if word[i] < 32 || word[i] > 126 {
			return api.EditParts{}, i, api.ErrSyntax
		}
	}
	p := partsOf(word)
	if p.Body == 0 {
		return api.EditParts{}, 0, api.ErrShape
	}
	return p, 0, api.OK
}

// partsOf returns the parts of a word whose characters are right: Body is 0 if it has no digit position, for the body ends with one.
func partsOf(word string) api.EditParts {
	p := api.EditParts{Status: api.None, Stop: api.None}
	if stop := strings.IndexAny(word, "0*"); stop >= 0 {
		p.Stop, p.Asterisk = stop, word[stop] == '*'
	}
	p.Body = max(strings.LastIndexByte(word, ' '), p.Stop) + 1
	for at := p.Body; at < len(word); at++ {
		if statusAt(word, at) != "" {
			p.Status = at
			break
		}
	}
	return p
}

// statusAt returns the status that begins at an index; "" if none does.
func statusAt(word string, at int) string {
	for _, status := range []string{credit, minus} {
		if strings.HasPrefix(word[at:], status) {
			return status
		}
	}
	return ""
}

func isPosition(word string, p api.EditParts, at int) bool {
	return word[at] == ' ' || at == p.Stop
}

// checkWord returns the parts of a word by which the values of a type can be edited.
func checkWord(t api.DataType, word string) (api.EditParts, api.Errno) {
	if err := checkNumeric(t); err != api.OK {
		return api.EditParts{}, err
	}
	p, _, err := PartsOf(word)
	if err != api.OK {
		return api.EditParts{}, err
	}
	positions := 0
	for at := range p.Body {
		if isPosition(word, p, at) {
			positions++
		}
	}
	if positions != t.Length {
		return api.EditParts{}, api.ErrLength
	}
	return p, api.OK
}

// EditedBy returns the text of a value by an edit word.
func EditedBy(t api.DataType, v api.Value, word string) (string, api.Errno) {
	p, err := checkWord(t, word)
	if err != api.OK {
		return "", err
	}
	if err := numeric.CheckValue(t, v); err != api.OK {
		return "", err
	}
	return editedBy(t, v.N, word, p), api.OK
}

func editedBy(t api.DataType, n int, word string, p api.EditParts) string {
	return bodyText(digitsOf(t, n), word, p) + expansionText(n < 0, word, p)
}

func bodyText(digits, word string, p api.EditParts) string {
	fill := byte(' ')
	if p.Asterisk {
		fill = '*'
	}
	out := []byte(word[:p.Body])
	suppressing, next := true, 0
	for at := range out {
		if isPosition(word, p, at) {
			out[at] = digits[next]
			next++
			suppressing = suppressing && out[at] == '0'
		}
		switch {
		case word[at] == '&':
			out[at] = ' '
		case suppressing:
			out[at] = fill
		}
		suppressing = suppressing && at != p.Stop
	}
	return string(out)
}

func expansionText(below bool, word string, p api.EditParts) string {
	out := word[p.Body:]
	if p.Status != api.None && !below {
		status := statusAt(word, p.Status)
		out = word[p.Body:p.Status] + blanks(len(status)) + word[p.Status+len(status):]
	}
	return strings.ReplaceAll(out, "&", " ")
}

// UneditedBy returns the value with a text by an edit word.
func UneditedBy(t api.DataType, s, word string) (api.Value, api.Errno) {
	p, err := checkWord(t, word)
	if err != api.OK {
		return api.Value{}, err
	}
	if len(s) != len(word) {
		return api.Value{}, api.ErrSyntax
	}
	return readBack(s, amountAt(s, word, p), func(n int) string { return editedBy(t, n, word, p) })
}

// amountAt returns the number that the digits at the digit positions make; what is no digit there stands for a 0. (Constants may be digits, too.)
func amountAt(s, word string, p api.EditParts) int {
	amount := 0
	for at := range p.Body {
		if !isPosition(word, p, at) {
			continue
		}
		amount *= 10
		if isDigit(s[at]) {
			amount += int(s[at] - '0')
		}
	}
	return amount
}

// WordOf returns an edit word by which values have the texts that they have by a code.
func WordOf(t api.DataType, e api.EditCode) (string, api.Errno) {
	if err := checkCode(t, e); err != api.OK {
		return "", err
	}
	if !hasWord(t, e) {
		return "", api.ErrRefused
	}
	s := styleOf(e.Code)
	digits := []byte(blanks(t.Length))
	if s.zeroPrinted {
		digits[stopPlace(t)] = stopOf(e.Fill)
	}
	return spread(t, string(digits), s.commas) + s.behind, api.OK
}

func hasWord(t api.DataType, e api.EditCode) bool {
	if e.Fill == api.FillDollar || !goesWithFill(e.Code) {
		return false
	}
	if styleOf(e.Code).zeroPrinted {
		return t.Scale < t.Length && t.Length > 1
	}
	return t.Scale == 0 && e.Fill == api.FillBlank
}

// stopPlace is the digit of the stop character. The last digit of a zero without decimals is printed, so it stands before that one.
func stopPlace(t api.DataType) int {
	if t.Scale == 0 {
		return t.Length - 2
	}
	return t.Length - t.Scale - 1
}

func stopOf(fill int) byte {
	if fill == api.FillAsterisk {
		return '*'
	}
	return '0'
}
