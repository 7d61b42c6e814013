package object_test

import (
	"math"
	"slices"
	"strings"
	"testing"

	"midrange/api"
	"midrange/object"
)

func name(library, n string, t int) api.ObjectName {
	return api.ObjectName{Library: library, Name: n, Type: t}
}

func lib(n string) api.ObjectName {
	return name("QSYS", n, api.TypeLibrary)
}

func pgm(library, n string) api.ObjectName {
	return name(library, n, api.TypeProgram)
}

func file(library, n string) api.ObjectName {
	return name(library, n, api.TypeFile)
}

// owned returns an object with a name; what is not named here is as in all others.
func owned(n api.ObjectName, segment int) api.Object {
	return api.Object{Name: n, Owner: "OWNER", Segment: segment, Text: "a text", Content: "content"}
}

var names = []string{"A", "Z", "$", "#", "@", "A1", "QSYS", "ABCDEFGHIJ", "X_Y.Z", "$#@", "@0123456_.", "A.", "A_", "ZZZZZZZZZ9"}

var notNames = []string{"", " ", "0", "1A", "_A", ".A", "a", "Aa", "ABCDEFGHIJK", "A B", "A ", " A", "A-B", "*LIBL", "A*", "A/B", "A\x00", "\x00", "\xc4", "A\xc4", "A\xc3\x84", "ABCDEFGHIj", "ABCDEFGHI-", "A%", "A`", "A[", "A{", "A:", "A\"", "[", "?", "%", strings.Repeat("A", 5000)}

// P8.2: names of libraries and objects.
func TestNames(t *testing.T) {
	for _, s := range names {
		if e := object.CheckName(pgm("APP", s)); e != api.OK {
			t.Errorf("CheckName of a program %q: %v", s, e)
		}
		if e := object.CheckName(pgm(s, "RUN")); e != api.OK {
			t.Errorf("CheckName of a library %q: %v", s, e)
		}
	}
	for _, s := range notNames {
		for _, n := range []api.ObjectName{pgm("APP", s), pgm(s, "RUN"), pgm(s, s), lib(s), name(s, "A", api.TypeLibrary), name(s, "QSYS", api.TypeLibrary), name("APP", s, api.TypeDevice)} {
			if e := object.CheckName(n); e != api.ErrName {
				t.Errorf("CheckName(%+v): %v", n, e)
			}
		}
	}
}

// P8.2: each byte at each place of a name.
func TestBytesOfNames(t *testing.T) {
	const first, later = "ABCDEFGHIJKLMNOPQRSTUVWXYZ$#@", "0123456789_."
	for size := 1; size <= 10; size++ {
		for at := range size {
			for c := range 256 {
				s := []byte(strings.Repeat("Q", size))
				s[at] = byte(c)
				want := api.ErrName
				if strings.IndexByte(first, byte(c)) >= 0 || at > 0 && strings.IndexByte(later, byte(c)) >= 0 {
					want = api.OK
				}
				for _, n := range []api.ObjectName{pgm(string(s), "RUN"), pgm("APP", string(s))} {
					if e := object.CheckName(n); e != want {
						t.Fatalf("CheckName(%+v): %v, not %v", n, e, want)
					}
				}
				o := owned(pgm("APP", "RUN"), 0)
				o.Owner = string(s)
				if e := object.CheckObject(o); e != want {
					t.Fatalf("CheckObject of the owner %q: %v, not %v", s, e, want)
				}
			}
		}
	}
}

// P8.2: types that there are not, whatever the names are.
func TestKindsOfNames(t *testing.T) {
	for _, k := range []int{-1, api.ObjectTypes, api.ObjectTypes + 1, math.MinInt, math.MaxInt} {
		for _, n := range []api.ObjectName{name("QSYS", "QSYS", k), name("APP", "RUN", k), name("", "", k), name("APP", "a", k)} {
			if e := object.CheckName(n); e != api.ErrKind {
				t.Errorf("CheckName(%+v): %v", n, e)
			}
		}
	}
}

// P8.2: the types whose objects are in QSYS, and libraries with this name.
func TestSystemTypes(t *testing.T) {
	for i, x := range rows {
		system := slices.Contains(systemTypes, x.name)
		for _, library := range []string{"QSYS", "APP", "QSYS2", "QSY", "Q"} {
			for _, n := range []string{"RUN", "QSYS", "QSYS2", "QSY"} {
				want := api.OK
				if system && library != "QSYS" || x.name == "*LIB" && n == "QSYS" {
					want = api.ErrClash
				}
				if e := object.CheckName(name(library, n, i)); e != want {
					t.Errorf("CheckName(%s/%s %s): %v, not %v", library, n, x.name, e, want)
				}
			}
		}
	}
}

// P8.2: valid objects.
func TestObjects(t *testing.T) {
	var printable strings.Builder
	for c := 32; c <= 126; c++ {
		printable.WriteByte(byte(c))
	}
	texts := []string{"", " ", "~", printable.String()[:50], printable.String()[45:], strings.Repeat("x", 50)}
	contents := []string{"", "x", "\x00\x1f\x7f\xff", strings.Repeat("\xff", 120), strings.Repeat("x", 119)}
	for _, segment := range []int{0, 1, -1, 9999, 10000, math.MinInt, math.MaxInt} {
		for _, text := range texts {
			for _, content := range contents {
				o := api.Object{Name: file("APP", "DATA"), Owner: "OWNER", Segment: segment, Text: text, Content: content}
				if e := object.CheckObject(o); e != api.OK {
					t.Errorf("CheckObject(%+v): %v", o, e)
				}
			}
		}
	}
	for _, owner := range names {
		o := owned(lib("APP"), 1)
		o.Owner = owner
		if e := object.CheckObject(o); e != api.OK {
			t.Errorf("CheckObject(%+v): %v", o, e)
		}
	}
}

// P8.2: objects that are not valid.
func TestWrongObjects(t *testing.T) {
	right := pgm("APP", "RUN")
	long, longer := strings.Repeat("x", 51), strings.Repeat("x", 121)
	for _, x := range []struct {
		n                    api.ObjectName
		owner, text, content string
		e                    api.Errno
	}{
		{name("APP", "RUN", -1), "OWNER", "", "", api.ErrKind}, {name("", "", 30), "", long, longer, api.ErrKind}, {api.ObjectName{}, "OWNER", "", "", api.ErrName}, {pgm("APP", "run"), "OWNER", "", "", api.ErrName}, {pgm("app", "RUN"), "", long, "", api.ErrName}, {lib("QSYS"), "OWNER", "", "", api.ErrClash},
		{name("APP", "DEV", api.TypeDevice), "OWNER", "", "", api.ErrClash}, {lib("QSYS"), "", "\n", longer, api.ErrClash},
		{right, "", "", "", api.ErrName}, {right, "owner", "", "", api.ErrName}, {right, "1", "\x00", "", api.ErrName}, {right, "OWNEROWNERO", "", "", api.ErrName}, {right, "*PUBLIC", long, longer, api.ErrName},
		{right, "OWNER", long, "", api.ErrLarge}, {right, "OWNER", "", longer, api.ErrLarge}, {right, "OWNER", long, longer, api.ErrLarge}, {right, "OWNER", strings.Repeat("\n", 51), "", api.ErrLarge}, {right, "OWNER", "\n", longer, api.ErrLarge}, {right, "OWNER", strings.Repeat("x", 100000), "", api.ErrLarge}, {right, "OWNER", "", strings.Repeat("x", 100000), api.ErrLarge}, {right, "OWNER", strings.Repeat("\xc3\xa4", 26), "", api.ErrLarge},
		{right, "OWNER", "\n", "", api.ErrSyntax}, {right, "OWNER", "\x1f", "", api.ErrSyntax}, {right, "OWNER", "\x7f", "", api.ErrSyntax}, {right, "OWNER", "\x00", "", api.ErrSyntax}, {right, "OWNER", "\x80", "", api.ErrSyntax}, {right, "OWNER", "\xff", "", api.ErrSyntax}, {right, "OWNER", "\xc3\xa4", "", api.ErrSyntax}, {right, "OWNER", strings.Repeat("x", 49) + "\t", "x", api.ErrSyntax}, {right, "OWNER", "x\ty", strings.Repeat("x", 120), api.ErrSyntax},
	} {
		o := api.Object{Name: x.n, Owner: x.owner, Text: x.text, Content: x.content}
		if e := object.CheckObject(o); e != x.e {
			t.Errorf("CheckObject(%+v): %v, not %v", o, e, x.e)
		}
	}
}
