package object_test

import (
	"fmt"
	"math"
	"slices"
	"testing"

	"midrange/api"
	"midrange/object"
)

func directory(next int, l ...api.Object) api.Directory {
	return api.Directory{Objects: l, Next: next}
}

func copyOf(d api.Directory) api.Directory {
	return api.Directory{Objects: slices.Clone(d.Objects), Next: d.Next}
}

func same(a, b api.Directory) bool {
	return a.Next == b.Next && slices.Equal(a.Objects, b.Objects)
}

func isNothing(d api.Directory) bool {
	return d.Next == 0 && len(d.Objects) == 0
}

// app is a directory with the library APP, in which there are two objects, and the empty library ZOO; 2 and 5 are segments of destroyed objects.
func app() api.Directory {
	return directory(8, owned(pgm("APP", "RUN"), 6), owned(file("APP", "RUN"), 3), owned(lib("APP"), 1), owned(name("QSYS", "APP", api.TypeUser), 7), owned(lib("ZOO"), 4))
}

// files returns a directory with so many files in QSYS.
func files(n int) api.Directory {
	d := directory(n + 1)
	for i := range n {
		d.Objects = append(d.Objects, owned(file("QSYS", fmt.Sprintf("F%02d", i)), n-i))
	}
	return d
}

var rightDirectories = []api.Directory{
	directory(1), directory(10000), directory(77), app(), files(1), files(39), files(40), directory(10000, files(40).Objects...),
	directory(2, owned(file("QSYS", "DATA"), 1)), directory(10000, owned(file("QSYS", "DATA"), 9999)), directory(10000, owned(lib("APP"), 9999), owned(lib("BPP"), 1)),
	directory(4, owned(pgm("A", "RUN"), 3), owned(lib("A"), 2)), directory(4, owned(lib("Z"), 3), owned(pgm("Z", "RUN"), 1)), directory(9, owned(name("QSYS", "QSYS", api.TypeUser), 2)),
	// By the bytes: # before $ before 0 before @ before A before _; a name before a longer one; the library before the name before the type.
	directory(9, owned(file("QSYS", "#"), 1), owned(file("QSYS", "$"), 2), owned(file("QSYS", "@"), 3), owned(file("QSYS", "A"), 4), owned(file("QSYS", "A#"), 5), owned(file("QSYS", "A."), 6), owned(file("QSYS", "A0"), 7), owned(file("QSYS", "A_"), 8)),
	directory(9, owned(pgm("A", "Z"), 1), owned(pgm("AB", "A"), 2), owned(lib("A"), 3), owned(lib("AB"), 4)), directory(5, owned(file("QSYS", "A"), 1), owned(name("QSYS", "A", api.TypeUser), 2), owned(name("QSYS", "A", api.TypeQuery), 3), owned(lib("B"), 4)),
}

// P8.3: valid directories.
func TestDirectories(t *testing.T) {
	for _, d := range rightDirectories {
		if n, e := object.CheckDirectory(d); n != len(d.Objects) || e != api.OK {
			t.Errorf("CheckDirectory(%v): %d, %v", d, n, e)
		}
	}
}

type wrongDirectory struct {
	d  api.Directory
	at int
	e  api.Errno
}

// wrongDirectories are wrong in the ways that P8.3 lists, also in several ones at once.
func wrongDirectories() []wrongDirectory {
	data, run, library := owned(file("QSYS", "DATA"), 1), owned(pgm("APP", "RUN"), 2), owned(lib("APP"), 1)
	bad := data
	bad.Owner = ""
	l := []wrongDirectory{
		{directory(42, make([]api.Object, 41)...), 0, api.ErrLarge}, {directory(0, make([]api.Object, 41)...), 0, api.ErrLarge}, {files(41), 0, api.ErrLarge}, {directory(1, make([]api.Object, 5000)...), 0, api.ErrLarge},
		{api.Directory{}, 0, api.ErrRange}, {directory(-1), 0, api.ErrRange}, {directory(10001), 0, api.ErrRange}, {directory(math.MinInt), 0, api.ErrRange}, {directory(math.MaxInt), 0, api.ErrRange}, {directory(0, data, bad), 0, api.ErrRange}, {directory(10001, data), 0, api.ErrRange}, {directory(0, api.Object{}), 0, api.ErrRange}, {directory(10001, data, owned(file("QSYS", "E"), 10000)), 0, api.ErrRange},
		{directory(9, api.Object{}), 0, api.ErrName}, {directory(9, bad), 0, api.ErrName}, {directory(9, owned(file("QSYS", "A"), 2), bad), 1, api.ErrName}, {directory(9, owned(name("QSYS", "A", 30), 2)), 0, api.ErrKind}, {directory(9, owned(lib("QSYS"), 2)), 0, api.ErrClash}, {directory(9, data, owned(name("QSYS", "X", -1), 1)), 1, api.ErrKind},
		{directory(9, owned(file("QSYS", "DATA"), 0)), 0, api.ErrRange}, {directory(9, owned(file("QSYS", "DATA"), 9)), 0, api.ErrRange}, {directory(9, owned(file("QSYS", "DATA"), 10)), 0, api.ErrRange}, {directory(9, owned(file("QSYS", "DATA"), -1)), 0, api.ErrRange}, {directory(1, data), 0, api.ErrRange}, {directory(9, owned(file("QSYS", "DATA"), math.MaxInt)), 0, api.ErrRange}, {directory(9, owned(file("QSYS", "DATA"), math.MinInt)), 0, api.ErrRange}, {directory(10000, owned(file("QSYS", "DATA"), 10000)), 0, api.ErrRange},
		{directory(9, data, owned(file("QSYS", "E"), 8), owned(file("QSYS", "A"), 9)), 2, api.ErrRange}, {directory(9, owned(file("NOWHERE", "DATA"), 9)), 0, api.ErrRange},
		{directory(9, data, owned(file("QSYS", "DATA"), 2)), 1, api.ErrOrder}, {directory(9, data, data), 1, api.ErrOrder}, {directory(9, data, owned(file("QSYS", "D"), 2)), 1, api.ErrOrder}, {directory(9, data, owned(file("QSYS", "$"), 1)), 1, api.ErrOrder}, {directory(9, data, owned(pgm("QSYS", "DATA"), 2)), 1, api.ErrOrder}, {directory(9, library, run), 1, api.ErrOrder}, {directory(9, owned(lib("B"), 1), owned(lib("C"), 3), owned(lib("A"), 2)), 2, api.ErrOrder}, {directory(9, data, owned(file("APP", "E"), 2)), 1, api.ErrOrder}, {directory(9, owned(file("QSYS", "A"), 1), owned(file("QSYS", "C"), 2), owned(file("QSYS", "B"), 3)), 2, api.ErrOrder},
		{directory(9, data, owned(file("QSYS", "E"), 1)), 1, api.ErrDouble}, {directory(9, data, owned(file("QSYS", "E"), 2), owned(file("QSYS", "F"), 3), owned(file("QSYS", "G"), 1)), 3, api.ErrDouble}, {directory(9, data, owned(file("RUN", "E"), 1)), 1, api.ErrDouble},
		{directory(9, run), 0, api.ErrMissing}, {directory(9, run, owned(lib("APQ"), 1)), 0, api.ErrMissing}, {directory(9, run, owned(pgm("QSYS", "APP"), 1)), 0, api.ErrMissing}, {directory(9, data, owned(file("QSYS2", "E"), 2)), 1, api.ErrMissing}, {directory(9, owned(pgm("APP", "APP"), 1), owned(name("QSYS", "APP", api.TypeUser), 2)), 0, api.ErrMissing}, {directory(9, data, owned(lib("R"), 2), owned(file("RUN", "E"), 3)), 2, api.ErrMissing},
		{directory(9, run, library, bad), 2, api.ErrName}, {directory(9, run, bad, library), 1, api.ErrName}, {directory(9, run, bad), 0, api.ErrMissing},
	}
	// A *LIB in another library is no valid object, but a library that exists.
	astray := owned(name("RUN", "APP", api.TypeLibrary), 3)
	return append(l, wrongDirectory{directory(9, run, astray), 1, api.ErrClash})
}

// P8.3: directories that are not valid, with the index of the object.
func TestWrongDirectories(t *testing.T) {
	for _, x := range wrongDirectories() {
		if n, e := object.CheckDirectory(x.d); n != x.at || e != x.e {
			t.Errorf("CheckDirectory(%v): %d, %v, not %d, %v", x.d, n, e, x.at, x.e)
		}
	}
}

// P8.4 to P8.7: the error of the directory comes before all others, without its index.
func TestErrorsOfDirectories(t *testing.T) {
	for _, x := range wrongDirectories() {
		for _, n := range []api.ObjectName{{}, lib("APP"), pgm("APP", "RUN"), file("QSYS", "DATA"), name("APP", "RUN", 30), lib("QSYS"), file("QSYS", "NEW")} {
			directoryComesFirst(t, x, n)
		}
		for _, segment := range []int{-1, 0, 1, 2, 9} {
			if i, e := object.FindSegment(x.d, segment); i != 0 || e != x.e {
				t.Errorf("FindSegment(%v, %d): %d, %v, not %v", x.d, segment, i, e, x.e)
			}
		}
	}
}

// directoryComesFirst calls the functions with a wrong directory and a name that is wrong, or right for some directories.
func directoryComesFirst(t *testing.T, x wrongDirectory, n api.ObjectName) {
	t.Helper()
	if i, e := object.Find(x.d, n); i != 0 || e != x.e {
		t.Errorf("Find(%v, %v): %d, %v, not %v", x.d, n, i, e, x.e)
	}
	if s, e := object.ContentOf(x.d, n); s != "" || e != x.e {
		t.Errorf("ContentOf(%v, %v): %q, %v, not %v", x.d, n, s, e, x.e)
	}
	after, e := object.Create(x.d, owned(n, 0))
	nothing(t, "Create", after, e, x.e)
	after, e = object.Destroy(x.d, n)
	nothing(t, "Destroy", after, e, x.e)
	after, e = object.Rename(x.d, n, "NEW")
	nothing(t, "Rename", after, e, x.e)
	after, e = object.Change(x.d, n, "new")
	nothing(t, "Change", after, e, x.e)
	after, e = object.Clear(x.d, n)
	nothing(t, "Clear", after, e, x.e)
	for kind := -1; kind <= api.ActionKinds; kind++ {
		after, e = object.Perform(x.d, api.ObjectAction{Kind: kind, Object: owned(n, 0), Name: "NEW"})
		nothing(t, "Perform", after, e, x.e)
	}
}

func nothing(t *testing.T, call string, d api.Directory, got, want api.Errno) {
	t.Helper()
	if !isNothing(d) || got != want {
		t.Errorf("%s: %v, %v, not %v", call, d, got, want)
	}
}

// P8.4: what is found in valid directories: all their names and segments, and no others.
func TestFind(t *testing.T) {
	for _, d := range rightDirectories {
		before := copyOf(d)
		for i, o := range d.Objects {
			if at, e := object.Find(d, o.Name); at != i || e != api.OK {
				t.Errorf("Find(%v, %v): %d, %v, not %d", d, o.Name, at, e, i)
			}
			if at, e := object.FindSegment(d, o.Segment); at != i || e != api.OK {
				t.Errorf("FindSegment(%v, %d): %d, %v, not %d", d, o.Segment, at, e, i)
			}
		}
		for segment := -1; segment <= 100; segment++ {
			i := slices.IndexFunc(d.Objects, func(o api.Object) bool { return o.Segment == segment })
			if at, e := object.FindSegment(d, segment); i == -1 && (at != 0 || e != api.ErrMissing) {
				t.Errorf("FindSegment(%v, %d): %d, %v", d, segment, at, e)
			}
		}
		if !same(d, before) {
			t.Errorf("%v is changed to %v", before, d)
		}
	}
}

// P8.4: names that are wrong, or of no object.
func TestNotFound(t *testing.T) {
	for _, x := range []struct {
		n api.ObjectName
		e api.Errno
	}{
		{name("APP", "RUN", -1), api.ErrKind}, {name("APP", "RUN", 30), api.ErrKind}, {name("", "", 30), api.ErrKind}, {api.ObjectName{}, api.ErrName}, {pgm("app", "RUN"), api.ErrName}, {pgm("APP", ""), api.ErrName}, {lib("QSYS"), api.ErrClash}, {name("APP", "ZOO", api.TypeLibrary), api.ErrClash}, {name("APP", "APP", api.TypeUser), api.ErrClash},
		{pgm("APP", "RUNN"), api.ErrMissing}, {pgm("APP", "RU"), api.ErrMissing}, {pgm("ZOO", "RUN"), api.ErrMissing}, {name("APP", "RUN", api.TypeModule), api.ErrMissing}, {lib("APQ"), api.ErrMissing}, {pgm("NOWHERE", "RUN"), api.ErrMissing}, {pgm("QSYS", "RUN"), api.ErrMissing}, {pgm("QSYS", "APP"), api.ErrMissing}, {name("QSYS", "ZOO", api.TypeUser), api.ErrMissing}, {file("QSYS", "QSYS"), api.ErrMissing},
	} {
		if at, e := object.Find(app(), x.n); at != 0 || e != x.e {
			t.Errorf("Find(%v): %d, %v, not %v", x.n, at, e, x.e)
		}
		if s, e := object.ContentOf(app(), x.n); s != "" || e != x.e {
			t.Errorf("ContentOf(%v): %q, %v, not %v", x.n, s, e, x.e)
		}
		after, e := object.Destroy(app(), x.n)
		nothing(t, "Destroy", after, e, x.e)
		for _, s := range []string{"NEW", "", "RUN"} {
			after, e = object.Rename(app(), x.n, s)
			nothing(t, "Rename", after, e, x.e)
		}
		after, e = object.Change(app(), x.n, string(make([]byte, 121)))
		nothing(t, "Change", after, e, x.e)
		after, e = object.Clear(app(), x.n)
		nothing(t, "Clear", after, e, x.e)
	}
	for _, segment := range []int{0, -1, 2, 5, 8, 9, math.MinInt, math.MaxInt} {
		if at, e := object.FindSegment(app(), segment); at != 0 || e != api.ErrMissing {
			t.Errorf("FindSegment(%d): %d, %v", segment, at, e)
		}
	}
}
