package tagged

import (
	"strconv"
	"strings"

	"midrange/api"
)

// The lines of dumps.
const (
	hexDigits  = "0123456789ABCDEF"
	bytesFrom  = 8  // where the bytes of a quadword begin in its line
	groupBytes = 4  // how many bytes follow one another without a blank
	lineLength = 45 // without the line feed
	tagMark    = "P"
	plainMark  = "-"
	runMark    = "*"
)

// Dump returns the dump of a storage.
func Dump(s api.Storage) (string, api.Errno) {
	if e := errorOf(s); e != api.OK {
		return "", e
	}
	out := ""
	run := 0
	for i, tag := range s.Tags {
		before := api.Storage{Bytes: s.Bytes[:i*api.QuadWord], Tags: s.Tags[:i]}
		if repeats(before, quadAt(s, i), tag) {
			run++
			continue
		}
		out += runLine(run) + quadLine(i, quadAt(s, i), tag) + "\n"
		run = 0
	}
	return out + runLine(run), api.OK
}

// repeats says whether a quadword behind a storage is not written in a dump.
func repeats(before api.Storage, quad string, tag bool) bool {
	return !tag && endsPlain(before) && strings.HasSuffix(before.Bytes, quad)
}

// endsPlain says whether the last quadword is one without a tag.
func endsPlain(s api.Storage) bool {
	return len(s.Tags) > 0 && !s.Tags[len(s.Tags)-1]
}

// runLine returns the line for so many quadwords, with its line feed; none for no quadwords.
func runLine(n int) string {
	if n == 0 {
		return ""
	}
	return runMark + strconv.Itoa(n) + "\n"
}

// quadLine returns the line of the quadword with an index, without its line feed.
func quadLine(i int, quad string, tag bool) string {
	line := hexOf(numberBytes(i*api.QuadWord, 3)) + ":"
	for from := 0; from < api.QuadWord; from += groupBytes {
		line += " " + hexOf(quad[from:from+groupBytes])
	}
	if tag {
		return line + " " + tagMark
	}
	return line + " " + plainMark
}

func hexOf(bytes string) string {
	var out []byte
	for i := range len(bytes) {
		out = append(out, hexDigits[bytes[i]>>4], hexDigits[bytes[i]&15])
	}
	return string(out)
}

// dumpReader is the storage of the lines that were read, and whether the last one of them was that of a run.
type dumpReader struct {
	storage  api.Storage
	afterRun bool
}

// ParseDump returns the storage with a dump. Beside ErrSyntax, ErrLarge and ErrPointer the number is the offset of the line that is wrong.
func ParseDump(text string) (api.Storage, int, api.Errno) {
	if len(text) > api.MaxText {
		return api.Storage{}, 0, api.ErrLarge
	}
	var r dumpReader
	for at := 0; at < len(text); {
		line, _, ended := strings.Cut(text[at:], "\n")
		if !ended {
			return api.Storage{}, at, api.ErrSyntax
		}
		if e := r.read(line); e != api.OK {
			return api.Storage{}, at, e
		}
		at += len(line) + 1
	}
	return r.storage, 0, api.OK
}

func (r *dumpReader) read(line string) api.Errno {
	if strings.HasPrefix(line, runMark) {
		return r.readRun(line[len(runMark):])
	}
	return r.readQuad(line)
}

// readRun takes as many quadwords like the last one as a number says.
func (r *dumpReader) readRun(digits string) api.Errno {
	n := countIn(digits)
	have := len(r.storage.Tags)
	if n == 0 || r.afterRun || !endsPlain(r.storage) {
		return api.ErrSyntax
	}
	if have+n > api.MaxQuads {
		return api.ErrLarge
	}
	r.storage.Bytes += strings.Repeat(quadAt(r.storage, have-1), n)
	r.storage.Tags = append(r.storage.Tags, make([]bool, n)...)
	r.afterRun = true
	return api.OK
}

// countIn returns the number above 0 with decimal digits, or any number above MaxQuads if it is above MaxQuads; 0 if there is none.
func countIn(digits string) int {
	if strings.HasPrefix(digits, "0") {
		return 0
	}
	n := 0
	for i := range len(digits) {
		if digits[i] < '0' || digits[i] > '9' {
			return 0
		}
		n = min(10*n+int(digits[i]-'0'), api.MaxQuads+1)
	}
	return n
}

func (r *dumpReader) readQuad(line string) api.Errno {
	have := len(r.storage.Tags)
	quad, tag, ok := quadIn(line, have)
	if !ok || repeats(r.storage, quad, tag) {
		return api.ErrSyntax
	}
	if have == api.MaxQuads {
		return api.ErrLarge
	}
	if tag && !isPointer(quad) {
		return api.ErrPointer
	}
	r.storage.Bytes += quad
	r.storage.Tags = append(r.storage.Tags, tag)
	r.afterRun = false
	return api.OK
}

// quadIn returns the quadword that a line writes out, if it is the one with an index. What is no digit stands for 0: written again, it gives another line.
func quadIn(line string, i int) (quad string, tag, ok bool) {
	if len(line) != lineLength {
		return "", false, false
	}
	bytes := make([]byte, api.QuadWord)
	for at := range bytes {
		from := bytesFrom + 2*at + at/groupBytes
		bytes[at] = digitIn(line[from])<<4 | digitIn(line[from+1])
	}
	quad = string(bytes)
	tag = strings.HasSuffix(line, tagMark)
	return quad, tag, quadLine(i, quad, tag) == line
}

func digitIn(c byte) byte {
	return byte(max(strings.IndexByte(hexDigits, c), 0))
}
