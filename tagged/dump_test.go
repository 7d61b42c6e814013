package tagged_test

import (
	"fmt"
	"regexp"
	"strconv"
	"strings"
	"testing"

	"midrange/api"
	"midrange/tagged"
)

const (
	zeros   = "00000000 00000000 00000000 00000000"
	first   = "000000: " + zeros + " -\n"
	example = "01000005 00000000 01020000 00000003" // system(258, 3, 5)
)

// P3.7, P3.9: the dumps of storages, which are read back.
func TestDumps(t *testing.T) {
	full := strings.Repeat("\xff", 16)
	for _, x := range []struct {
		s    api.Storage
		want string
	}{
		{api.Storage{}, ""}, {storageOf(""), first}, {storageOf("", ""), first + "*1\n"}, {storageOf("", "", "", ""), first + "*3\n"},
		{storageOf("\x09\x0a\xab\xcd"), "000000: 090AABCD 00000000 00000000 00000000 -\n"}, {storageOf("abcdefghijklmnop"), "000000: 61626364 65666768 696A6B6C 6D6E6F70 -\n"},
		{storageOf(system(258, 3, 5)), "000000: " + example + " P\n"}, {storageOf(space(0, 0), space(0, 0)), "000000: " + zeros + " P\n000010: " + zeros + " P\n"},
		{storageOf(space(0, 0), "", "", ""), "000000: " + zeros + " P\n000010: " + zeros + " -\n*2\n"}, {storageOf("", space(0, 0), ""), first + "000010: " + zeros + " P\n000020: " + zeros + " -\n"}, {storageOf("", "", space(0, 0), "", ""), first + "*1\n000020: " + zeros + " P\n000030: " + zeros + " -\n*1\n"},
		{storageOf("", "", full, full, ""), first + "*1\n000020: FFFFFFFF FFFFFFFF FFFFFFFF FFFFFFFF -\n*1\n000040: " + zeros + " -\n"}, {storageOf("", full, ""), first + "000010: FFFFFFFF FFFFFFFF FFFFFFFF FFFFFFFF -\n000020: " + zeros + " -\n"},
		{api.Storage{Bytes: strings.Repeat("\x00", 1024), Tags: make([]bool, 64)}, first + "*63\n"}, {api.Storage{Bytes: strings.Repeat("\x00", 1024), Tags: append(make([]bool, 63), true)}, first + "*62\n0003F0: " + zeros + " P\n"},
	} {
		if got, e := tagged.Dump(x.s); got != x.want || e != api.OK {
			t.Errorf("Dump(%v): %q, %v, not %q", x.s, got, e, x.want)
		}
		if s, at, e := tagged.ParseDump(x.want); !same(s, x.s) || at != 0 || e != api.OK {
			t.Errorf("ParseDump(%q): %v, %d, %v", x.want, s, at, e)
		}
	}
}

// P3.7: texts that are not dumps, with the offset of the line that is wrong.
func TestParseDumpErrors(t *testing.T) {
	word := strings.Repeat("0", 8)
	second := "000010: " + zeros + " -\n"
	other := "000010: " + strings.Replace(zeros, "0", "1", 1) + " -\n"
	wrongPointer := "000000: 03" + zeros[2:] + " P\n"
	for _, x := range []struct {
		text string
		at   int
		e    api.Errno
	}{
		{strings.Repeat("x", 6001), 0, api.ErrLarge}, {strings.Repeat("x", 6000), 0, api.ErrSyntax}, {first + strings.Repeat("\n", 6000), 0, api.ErrLarge}, {first + strings.Repeat("\n", 5954), 46, api.ErrSyntax},
		{"\n", 0, api.ErrSyntax}, {"x", 0, api.ErrSyntax}, {first + "\n", 46, api.ErrSyntax}, {"\n" + first, 0, api.ErrSyntax}, {first[:45], 0, api.ErrSyntax}, {first + "*1", 46, api.ErrSyntax}, {first + other[:45], 46, api.ErrSyntax}, {first + "*1\nx", 49, api.ErrSyntax}, {first + "*", 46, api.ErrSyntax}, {first[:45] + "\r\n", 0, api.ErrSyntax}, {first + " ", 46, api.ErrSyntax},
		{first + "*0\n", 46, api.ErrSyntax}, {first + "*00\n", 46, api.ErrSyntax}, {first + "*01\n", 46, api.ErrSyntax}, {first + "*\n", 46, api.ErrSyntax}, {first + "*-1\n", 46, api.ErrSyntax}, {first + "*+1\n", 46, api.ErrSyntax}, {first + "* 1\n", 46, api.ErrSyntax}, {first + "*1 \n", 46, api.ErrSyntax}, {first + "*A\n", 46, api.ErrSyntax}, {first + "*1/\n", 46, api.ErrSyntax}, {first + "*1:\n", 46, api.ErrSyntax}, {first + "**1\n", 46, api.ErrSyntax}, {first + "*99x\n", 46, api.ErrSyntax}, {first + "1\n", 46, api.ErrSyntax}, {first + "*1.0\n", 46, api.ErrSyntax},
		{"*1\n", 0, api.ErrSyntax}, {"*99\n", 0, api.ErrSyntax}, {"000000: " + zeros + " P\n*1\n", 46, api.ErrSyntax}, {"000000: " + zeros + " P\n*99\n", 46, api.ErrSyntax}, {first + "*1\n*1\n", 49, api.ErrSyntax}, {first + "*1\n*99\n", 49, api.ErrSyntax}, {first + other + "000020: " + example + " P\n*1\n", 138, api.ErrSyntax},
		{first + second, 46, api.ErrSyntax}, {first + "*1\n000020: " + zeros + " -\n", 49, api.ErrSyntax}, {first + other + strings.Replace(other, "000010", "000020", 1), 92, api.ErrSyntax}, {"000000: " + zeros + " P\n" + second + "000020: " + zeros + " -\n", 92, api.ErrSyntax},
		{second, 0, api.ErrSyntax}, {first + first, 46, api.ErrSyntax}, {first + strings.Replace(other, "000010", "000020", 1), 46, api.ErrSyntax}, {first + "*1\n" + other, 49, api.ErrSyntax}, {first + strings.Replace(other, "000010", "000011", 1), 46, api.ErrSyntax}, {"00000: " + zeros + " -\n", 0, api.ErrSyntax}, {"0000000: " + zeros + " -\n", 0, api.ErrSyntax},
		{"000000:  " + zeros + " -\n", 0, api.ErrSyntax}, {"000000  " + zeros + " -\n", 0, api.ErrSyntax}, {"000000:0" + zeros + " -\n", 0, api.ErrSyntax}, {"000000: " + zeros + "  -\n", 0, api.ErrSyntax}, {"000000: " + zeros + "0-\n", 0, api.ErrSyntax}, {"000000: " + zeros + "\n", 0, api.ErrSyntax}, {"000000: " + zeros + " p\n", 0, api.ErrSyntax}, {"000000: " + zeros + " *\n", 0, api.ErrSyntax}, {" " + first, 0, api.ErrSyntax}, {"000000: " + zeros + " - \n", 0, api.ErrSyntax}, {"000000: " + zeros + "\t-\n", 0, api.ErrSyntax},
		{"000000: " + strings.Repeat(word, 4) + "    -\n", 0, api.ErrSyntax}, {"000000: " + word + "0" + word + "0" + word + "0" + word + " -\n", 0, api.ErrSyntax}, {"000000: 0000000g" + zeros[8:] + " -\n", 0, api.ErrSyntax}, {"000000: 0000000G" + zeros[8:] + " -\n", 0, api.ErrSyntax}, {"000000: 0000000a" + zeros[8:] + " -\n", 0, api.ErrSyntax}, {"000000: a0000000" + zeros[8:] + " -\n", 0, api.ErrSyntax}, {"000000: 000000/0" + zeros[8:] + " -\n", 0, api.ErrSyntax}, {"000000: -0000000" + zeros[8:] + " -\n", 0, api.ErrSyntax}, {"00000a: " + zeros + " -\n", 0, api.ErrSyntax},
		{first + "*64\n", 46, api.ErrLarge}, {first + "*9223372036854775807\n", 46, api.ErrLarge}, {first + "*9223372036854775808\n", 46, api.ErrLarge}, {first + "*18446744073709551616\n", 46, api.ErrLarge}, {first + "*18446744073709551617\n", 46, api.ErrLarge}, {first + "*1" + strings.Repeat("0", 5000) + "\n", 46, api.ErrLarge}, {first + "*63\n000400: " + example + " P\n", 50, api.ErrLarge}, {first + "*63\n000400: 11111111" + zeros[8:] + " -\n", 50, api.ErrLarge}, {first + other + "*63\n", 92, api.ErrLarge},
		{first + "*63\n000400: " + zeros + " -\n", 50, api.ErrSyntax}, {first + "*63\n000410: " + example + " P\n", 50, api.ErrSyntax}, {first + "*63\n*1\n", 50, api.ErrSyntax}, {first + "*63\n000400: 03" + zeros[2:] + " P\n", 50, api.ErrLarge}, {first + "*64\nx", 46, api.ErrLarge},
		{wrongPointer, 0, api.ErrPointer}, {first + "000010: 00010000" + zeros[8:] + " P\n", 46, api.ErrPointer}, {first + "000010: 01000400" + zeros[8:] + " P\n", 46, api.ErrPointer}, {first + "000010: 00000001" + zeros[8:] + " P\n", 46, api.ErrPointer}, {first + "000010: " + zeros[:27] + "01000000 P\n", 46, api.ErrPointer}, {first + "*2\n000030: FFFFFFFF FFFFFFFF FFFFFFFF FFFFFFFF P\n", 49, api.ErrPointer},
		{wrongPointer + "x\n", 0, api.ErrPointer}, {wrongPointer[:44] + "\n", 0, api.ErrSyntax}, {wrongPointer[:45], 0, api.ErrSyntax}, {strings.Replace(wrongPointer, "000000", "000010", 1), 0, api.ErrSyntax},
	} {
		if s, at, e := tagged.ParseDump(x.text); !isNothing(s) || at != x.at || e != x.e {
			t.Errorf("ParseDump(%.300q): %v, %d, %v, not %d, %v", x.text, s, at, e, x.at, x.e)
		}
	}
}

// P3.7: the longest text that is a dump has no more characters than a text may have.
func TestLongestDump(t *testing.T) {
	var s api.Storage
	for i := range api.MaxQuads {
		s.Bytes += strings.Repeat(string([]byte{byte(i)}), 16)
		s.Tags = append(s.Tags, false)
	}
	text, e := tagged.Dump(s)
	if len(text) != 46*api.MaxQuads || e != api.OK {
		t.Errorf("Dump: %q, %v", text, e)
	}
	if back, at, e := tagged.ParseDump(text); !same(back, s) || at != 0 || e != api.OK {
		t.Errorf("ParseDump: %v, %d, %v", back, at, e)
	}
	if back, at, e := tagged.ParseDump(text + "000400: " + zeros + " -\n"); !isNothing(back) || at != len(text) || e != api.ErrLarge {
		t.Errorf("ParseDump with one more: %v, %d, %v", back, at, e)
	}
}

// dumpBy writes the dump of a storage, a right one or not.
func dumpBy(s api.Storage) string {
	text := ""
	for i := 0; i < len(s.Tags); {
		b := s.Bytes[16*i : 16*i+16]
		mark := map[bool]string{false: "-", true: "P"}[s.Tags[i]]
		text += fmt.Sprintf("%06X: %X %X %X %X %s\n", 16*i, b[:4], b[4:8], b[8:12], b[12:], mark)
		n := 1
		for !s.Tags[i] && i+n < len(s.Tags) && !s.Tags[i+n] && s.Bytes[16*(i+n):16*(i+n)+16] == b {
			n++
		}
		if n > 1 {
			text += "*" + strconv.Itoa(n-1) + "\n"
		}
		i += n
	}
	return text
}

var (
	quadForm = regexp.MustCompile(`^[0-9A-F]{6}: [0-9A-F]{8} [0-9A-F]{8} [0-9A-F]{8} [0-9A-F]{8} [P-]\n$`)
	runForm  = regexp.MustCompile(`^\*[0-9]{1,3}\n$`)
)

// parsedBy reads a dump: the text up to each line must be the dump of what was read.
func parsedBy(text string) (api.Storage, int, api.Errno) {
	var s api.Storage
	at := 0
	for _, line := range strings.SplitAfter(text, "\n") {
		if line == "" {
			break
		}
		switch {
		case quadForm.MatchString(line):
			b := make([]byte, 16)
			fmt.Sscanf(strings.ReplaceAll(line[8:43], " ", ""), "%x", &b)
			s.Bytes += string(b)
			s.Tags = append(s.Tags, line[44] == 'P')
		case runForm.MatchString(line) && len(s.Tags) > 0:
			n, _ := strconv.Atoi(line[1 : len(line)-1])
			s.Bytes += strings.Repeat(s.Bytes[len(s.Bytes)-16:], n)
			s.Tags = append(s.Tags, make([]bool, n)...)
		default:
			return api.Storage{}, at, api.ErrSyntax
		}
		if dumpBy(s) != text[:at+len(line)] {
			return api.Storage{}, at, api.ErrSyntax
		}
		if len(s.Tags) > api.MaxQuads {
			return api.Storage{}, at, api.ErrLarge
		}
		last := len(s.Tags) - 1
		if s.Tags[last] && !rightBytes(s.Bytes[16*last:]) {
			return api.Storage{}, at, api.ErrPointer
		}
		at += len(line)
	}
	return s, 0, api.OK
}

// P3.7, P3.9: texts that differ a little from dumps are read as the definition says, and only dumps are read.
func TestChangedDumps(t *testing.T) {
	s := storageOf("", "", system(258, 3, 5), "ab", "ab", "ab", "", space(1, 2), space(1, 2), "")
	dump, _ := tagged.Dump(s)
	asDefined(t, dump)
	for at := range dump {
		for _, c := range []byte("0123456789ABCDEFGabcdef-P*: \n\xff") {
			asDefined(t, dump[:at]+string([]byte{c})+dump[at+1:])
			asDefined(t, dump[:at]+string([]byte{c})+dump[at:])
		}
		asDefined(t, dump[:at])
		asDefined(t, dump[at:])
		asDefined(t, dump[:at]+dump[at+1:])
	}
	lines := strings.SplitAfter(dump, "\n")
	for i := range lines {
		for j := range lines {
			asDefined(t, strings.Join(lines[:i], "")+lines[j]+strings.Join(lines[i:], ""))
			asDefined(t, strings.Join(lines[:i], "")+lines[j])
		}
	}
}

func asDefined(t *testing.T, text string) {
	t.Helper()
	s, at, e := tagged.ParseDump(text)
	want, place, f := parsedBy(text)
	if !same(s, want) || at != place || e != f {
		t.Errorf("ParseDump(%q): %v, %d, %v, not %v, %d, %v", text, s, at, e, want, place, f)
	}
	if back, f := tagged.Dump(s); e == api.OK && (back != text || f != api.OK) {
		t.Errorf("ParseDump(%q) has the dump %q, %v", text, back, f)
	}
}
