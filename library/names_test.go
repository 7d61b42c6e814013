package library_test

import (
	"regexp"
	"strings"
	"testing"

	"midrange/api"
	"midrange/library"
)

func qualified(lib, n string) api.QualifiedName {
	return api.QualifiedName{Library: lib, Name: n}
}

func generic(lib, n string) api.QualifiedName {
	return api.QualifiedName{Library: lib, Name: n, Generic: true}
}

var names = []string{"A", "Z", "$", "#", "@", "A1", "QSYS", "ABCDEFGHIJ", "X_Y.Z", "$#@", "@0123456_.", "A.", "A_", "ZZZZZZZZZ9", "LIBL"}

var notNames = []string{"", " ", "*", "0", "1A", "_A", ".A", "a", "Aa", "ABCDEFGHIJK", "A B", "A ", " A", "A-B", "*A", "**", "A**", "*LIB", "*LIBLE", "*libl", "*ALL", "*CURLIB ", "A\x00", "\x00", "\xc4", "A\xc4", "A\xc3\x84", "A[", "A%", strings.Repeat("A", 5000)}

var specials = []string{"*LIBL", "*CURLIB", "*USRLIBL"}

// P9.1: the strings of qualified names, in both directions.
func TestQualifiedNames(t *testing.T) {
	for _, lib := range append(append([]string{""}, specials...), names...) {
		for _, n := range names {
			s := n
			if lib != "" {
				s = lib + "/" + n
			}
			bothWays(t, s, qualified(lib, n))
			bothWays(t, s+"*", generic(lib, n))
		}
	}
}

func bothWays(t *testing.T, s string, q api.QualifiedName) {
	t.Helper()
	if got, at, e := library.ParseName(s); got != q || at != 0 || e != api.OK {
		t.Errorf("ParseName(%q): %+v, %d, %v", s, got, at, e)
	}
	if got, e := library.FormatName(q); got != s || e != api.OK {
		t.Errorf("FormatName(%+v): %q, %v, not %q", q, got, e, s)
	}
}

// Example 1, and the edge case.
func TestExamplesOfNames(t *testing.T) {
	bothWays(t, "*LIBL/PAY*", generic("*LIBL", "PAY"))
	bothWays(t, "APP/RUN", qualified("APP", "RUN"))
	bothWays(t, "*LIBL/A", qualified("*LIBL", "A"))
	bothWays(t, "A", qualified("", "A"))
	notParsed(t, "A/B/C", 2, api.ErrName)
	notParsed(t, "*A", 0, api.ErrName)
}

func notParsed(t *testing.T, s string, at int, want api.Errno) {
	t.Helper()
	if q, i, e := library.ParseName(s); q != (api.QualifiedName{}) || i != at || e != want {
		t.Errorf("ParseName(%q): %+v, %d, %v, not %d, %v", s, q, i, e, at, want)
	}
}

// P9.1: strings that are no qualified names, with the offset.
func TestNotParsed(t *testing.T) {
	notParsed(t, "", 0, api.ErrEmpty)
	for _, x := range []struct {
		s  string
		at int
	}{
		{"/", 0}, {"/A", 0}, {"/A*", 0}, {"//", 0}, {"*/A", 0}, {"**/A", 0}, {"A*/B", 0}, {"a/B", 0}, {"ABCDEFGHIJK/A", 0}, {"1/1", 0}, {"*LIB/A", 0}, {"*ALL/A", 0}, {"LIBL*/A", 0}, {" A/B", 0}, {"A /B", 0}, {"*libl/A", 0}, {"*CURLIB*/A", 0},
		{"A/", 2}, {"A/*", 2}, {"A/**", 2}, {"A/B**", 2}, {"A/b", 2}, {"A/B C", 2}, {"A/ABCDEFGHIJK", 2}, {"A/*LIBL", 2}, {"A//B", 2}, {"A/B/", 2}, {"APP/B/C", 4}, {"ABCDEFGHIJ/1", 11}, {"*LIBL/", 6}, {"*LIBL/*", 6}, {"*LIBL/*LIBL/A", 6}, {"*CURLIB/0", 8}, {"*USRLIBL/*A", 9}, {"*USRLIBL/A/B", 9}, {"A/*B", 2}, {"A/B*C", 2},
		{"*", 0}, {"**", 0}, {"A**", 0}, {"*LIBL", 0}, {"*LIBL*", 0}, {"A*B", 0}, {"ABCDEFGHIJK", 0}, {"ABCDEFGHIJK*", 0}, {"A ", 0}, {"A\x00", 0}, {"A\\B", 0}, {strings.Repeat("A/", 4000), 2},
	} {
		notParsed(t, x.s, x.at, api.ErrName)
	}
	for _, s := range notNames {
		if s != "" {
			notParsed(t, s, 0, api.ErrName)
		}
		notParsed(t, s+"/A", 0, api.ErrName)
		notParsed(t, s+"/"+s, 0, api.ErrName)
		notParsed(t, "APP/"+s, 4, api.ErrName)
		notParsed(t, "*LIBL/"+s+"*", 6, api.ErrName)
	}
}

// P9.1: qualified names without a string.
func TestNotFormatted(t *testing.T) {
	for _, s := range notNames {
		l := []api.QualifiedName{qualified("", s), generic("", s), qualified("*LIBL", s), generic("APP", s), qualified(s, s)}
		if s != "" {
			l = append(l, qualified(s, "A"), generic(s, "A"))
		}
		for _, q := range l {
			notFormatted(t, q)
		}
	}
	for _, q := range []api.QualifiedName{{}, qualified("", "A*"), generic("", "A*"), qualified("", "A/B"), qualified("A/B", "C"), qualified("A/", "B"), qualified("*LIBL/", "B"), qualified("APP", "*LIBL"), qualified("/", "A")} {
		notFormatted(t, q)
	}
}

func notFormatted(t *testing.T, q api.QualifiedName) {
	t.Helper()
	if s, e := library.FormatName(q); s != "" || e != api.ErrName {
		t.Errorf("FormatName(%+v): %q, %v", q, s, e)
	}
}

const namePart = `[A-Z$#@][A-Z0-9_.$#@]{0,9}`

var (
	namePattern      = regexp.MustCompile(`^` + namePart + `$`)
	libraryPattern   = regexp.MustCompile(`^(\*LIBL|\*CURLIB|\*USRLIBL|` + namePart + `)$`)
	qualifiedPattern = regexp.MustCompile(`^(?:(\*LIBL|\*CURLIB|\*USRLIBL|` + namePart + `)/)?(` + namePart + `)(\*?)$`)
)

// parsed is a second computation of ParseName.
func parsed(s string) (api.QualifiedName, int, api.Errno) {
	if m := qualifiedPattern.FindStringSubmatch(s); m != nil {
		return api.QualifiedName{Library: m[1], Name: m[2], Generic: m[3] != ""}, 0, api.OK
	}
	parts := strings.SplitN(s, "/", 2)
	switch {
	case s == "":
		return api.QualifiedName{}, 0, api.ErrEmpty
	case len(parts) == 2 && libraryPattern.MatchString(parts[0]):
		return api.QualifiedName{}, len(parts[0] + "/"), api.ErrName
	}
	return api.QualifiedName{}, 0, api.ErrName
}

// P9.1, P9.8: all strings of up to four parts, by the second computation and back.
func TestNamesComputedTwice(t *testing.T) {
	parts := []string{"", "*", "/", "A", "*LIBL", "*CURLIB", "*USRLIBL", "ABCDEFGHI", "1", "a", "QSYS", ".", "$", "\x80"}
	for _, a := range parts {
		for _, b := range parts {
			for _, c := range parts {
				for _, d := range parts {
					parsedTwice(t, a+b+c+d)
				}
			}
		}
	}
}

func parsedTwice(t *testing.T, s string) {
	t.Helper()
	q, at, e := library.ParseName(s)
	if want, i, f := parsed(s); q != want || at != i || e != f {
		t.Fatalf("ParseName(%q): %+v, %d, %v, not %+v, %d, %v", s, q, at, e, want, i, f)
	}
	if e != api.OK {
		return
	}
	if back, f := library.FormatName(q); back != s || f != api.OK {
		t.Fatalf("FormatName(%+v): %q, %v, not %q", q, back, f, s)
	}
}

// P9.1: each byte at each place of both names.
func TestBytesOfNames(t *testing.T) {
	for size := 1; size <= 10; size++ {
		for at := range size {
			for c := range 256 {
				s := []byte(strings.Repeat("Q", size))
				s[at] = byte(c)
				for _, q := range []string{string(s), string(s) + "*", "APP/" + string(s), string(s) + "/RUN"} {
					parsedTwice(t, q)
				}
			}
		}
	}
}

// P9.1, P9.8: all qualified names of some parts; what has a string is read back from it.
func TestFormattedNamesAreParsed(t *testing.T) {
	parts := append(append(append([]string{}, names...), notNames...), specials...)
	for _, lib := range parts {
		for _, n := range parts {
			for _, q := range []api.QualifiedName{qualified(lib, n), generic(lib, n)} {
				s, e := library.FormatName(q)
				right := (lib == "" || libraryPattern.MatchString(lib)) && namePattern.MatchString(n)
				if right != (e == api.OK) || !right && (s != "" || e != api.ErrName) {
					t.Fatalf("FormatName(%+v): %q, %v", q, s, e)
				}
				if back, at, f := library.ParseName(s); right && (back != q || at != 0 || f != api.OK) {
					t.Fatalf("ParseName(%q): %+v, %d, %v, not %+v", s, back, at, f, q)
				}
			}
		}
	}
}
