package library_test

import (
	"fmt"
	"slices"
	"strings"
	"testing"

	"midrange/api"
	"midrange/library"
	"midrange/object"
)

func name(lib, n string, t int) api.ObjectName {
	return api.ObjectName{Library: lib, Name: n, Type: t}
}

func lib(n string) api.ObjectName {
	return name("QSYS", n, api.TypeLibrary)
}

func pgm(lib, n string) api.ObjectName {
	return name(lib, n, api.TypeProgram)
}

func file(lib, n string) api.ObjectName {
	return name(lib, n, api.TypeFile)
}

// owned returns an object with a name; its owner, its text and its content are its own.
func owned(n api.ObjectName, segment int) api.Object {
	return api.Object{Name: n, Owner: fmt.Sprint("O", segment), Segment: segment, Text: fmt.Sprint("the text ", segment), Content: fmt.Sprint("the content\n", segment)}
}

func directory(next int, l ...api.Object) api.Directory {
	return api.Directory{Objects: l, Next: next}
}

func copyOf(d api.Directory) api.Directory {
	return api.Directory{Objects: slices.Clone(d.Objects), Next: d.Next}
}

func same(a, b api.Directory) bool {
	return a.Next == b.Next && slices.Equal(a.Objects, b.Objects)
}

func sameList(a, b api.LibraryList) bool {
	return slices.Equal(a.System, b.System) && a.Current == b.Current && slices.Equal(a.User, b.User)
}

func copyOfList(l api.LibraryList) api.LibraryList {
	return api.LibraryList{System: slices.Clone(l.System), Current: l.Current, User: slices.Clone(l.User)}
}

// list returns a library list of parts whose libraries stand with blanks between them.
func list(system, current, user string) api.LibraryList {
	return api.LibraryList{System: strings.Fields(system), Current: current, User: strings.Fields(user)}
}

// shop is a directory with the libraries APP, EMPTY and TEST, whose objects have some names in common; 2 and 15 are segments of destroyed objects.
func shop() api.Directory {
	return directory(21,
		owned(file("APP", "DATA"), 9), owned(pgm("APP", "PAY"), 5), owned(file("APP", "PAY"), 8), owned(pgm("APP", "PAYROLL"), 7), owned(pgm("APP", "RUN"), 14),
		owned(lib("APP"), 1), owned(name("QSYS", "APP", api.TypeUser), 20), owned(lib("EMPTY"), 3), owned(name("QSYS", "PAY", api.TypeCommand), 6), owned(name("QSYS", "RUN", api.TypeCommand), 10), owned(lib("TEST"), 4),
		owned(pgm("TEST", "PA"), 19), owned(name("TEST", "PAY", api.TypeModule), 12), owned(file("TEST", "PAY"), 16), owned(name("TEST", "QUEUE", api.TypeDataQueue), 17), owned(name("TEST", "RECEIVER", api.TypeReceiver), 18), owned(pgm("TEST", "RUN"), 13), owned(name("TEST", "RUN", api.TypeJournal), 11),
	)
}

// many is a directory with the libraries A to O, O having the lowest segment, and a program RUN in each of them.
func many() api.Directory {
	d := directory(31)
	for i := range 15 {
		d.Objects = append(d.Objects, owned(pgm(string(rune('A'+i)), "RUN"), 30-i))
	}
	for i := range 15 {
		d.Objects = append(d.Objects, owned(lib(string(rune('A'+i))), 15-i))
	}
	slices.SortStableFunc(d.Objects, func(a, b api.Object) int { return strings.Compare(a.Name.Library, b.Name.Library) })
	return d
}

// The directories of these tests are right.
func TestTheDirectories(t *testing.T) {
	for _, d := range []api.Directory{shop(), many()} {
		if n, e := object.CheckDirectory(d); n != len(d.Objects) || e != api.OK {
			t.Errorf("CheckDirectory(%v): %d, %v", d, n, e)
		}
	}
}

type wrongDirectory struct {
	d api.Directory
	e api.Errno
}

func wrongDirectories() []wrongDirectory {
	bad := shop()
	bad.Objects[3].Owner = ""
	double := shop()
	double.Objects[17].Segment = 4
	return []wrongDirectory{
		{directory(0, shop().Objects...), api.ErrRange}, {directory(10001), api.ErrRange}, {directory(50, make([]api.Object, 41)...), api.ErrLarge}, {directory(20, shop().Objects...), api.ErrRange}, {bad, api.ErrName}, {double, api.ErrDouble},
		{directory(9, owned(pgm("APP", "RUN"), 1)), api.ErrMissing}, {directory(9, owned(lib("B"), 1), owned(lib("A"), 2)), api.ErrOrder}, {directory(9, owned(name("QSYS", "A", api.ObjectTypes), 1)), api.ErrKind}, {directory(9, owned(name("APP", "A", api.TypeUser), 1)), api.ErrClash},
	}
}

var rightLists = []api.LibraryList{
	{}, list("QSYS", "", ""), list("", "QSYS", ""), list("", "", "QSYS"), list("QSYS", "QSYS", ""), list("", "QSYS", "QSYS"), list("QSYS", "APP", "TEST APP"), list("QSYS APP", "", "EMPTY TEST"), list("QSYS APP", "EMPTY", "TEST"), list("EMPTY TEST APP QSYS", "APP", ""), list("", "", "APP EMPTY TEST QSYS"), list("TEST", "TEST", "APP"), list("", "EMPTY", "APP"), list("QSYS TEST", "APP", "APP"),
}

var rightListsOfMany = []api.LibraryList{
	list("A B C D E", "", "F G H I J K L M"), list("A B C D E", "O", ""), list("", "A", "H G F E D C B A"), list("QSYS A", "M", "F G H I J K L M"), list("E D C B A", "C", "O N M L"), list("B D A C O", "N", "N M F G H I J K"),
}

// P9.2: valid lists, with the number of their entries.
func TestLists(t *testing.T) {
	for d, lists := range map[int][]api.LibraryList{0: rightLists, 1: rightListsOfMany} {
		for _, l := range lists {
			if n, e := library.CheckList([]api.Directory{shop(), many()}[d], l); n != len(l.System)+len(l.User) || e != api.OK {
				t.Errorf("CheckList(%v): %d, %v", l, n, e)
			}
		}
	}
	for _, l := range rightLists[:6] {
		if n, e := library.CheckList(directory(1), l); n != len(l.System)+len(l.User) || e != api.OK {
			t.Errorf("CheckList(%v) of an empty directory: %d, %v", l, n, e)
		}
	}
}

type wrongList struct {
	l  api.LibraryList
	at int
	e  api.Errno
}

// wrongLists are lists for the directory shop that are wrong in the ways that P9.2 lists, also in several ones at once.
var wrongLists = []wrongList{
	{list("QSYS QSYS QSYS QSYS QSYS QSYS", "", ""), 0, api.ErrLarge}, {list("A B C D E F", "a", "APP"), 0, api.ErrLarge}, {list("", "", "A B C D E F G H I"), 0, api.ErrLarge}, {list("a", "", "A B C D E F G H I"), 0, api.ErrLarge}, {list("QSYS", "APP", "APP TEST APP TEST APP TEST APP TEST APP"), 0, api.ErrLarge}, {list(strings.Repeat("APP ", 3000), "", ""), 0, api.ErrLarge},
	{list("app", "", ""), 0, api.ErrName}, {api.LibraryList{System: []string{""}}, 0, api.ErrName}, {api.LibraryList{User: []string{"APP", ""}}, 1, api.ErrName}, {list("*LIBL", "", ""), 0, api.ErrName}, {list("QSYS *CURLIB", "", ""), 1, api.ErrName}, {list("QSYS APP", "app", "TEST 0"), 3, api.ErrName}, {list("QSYS", "", "ABCDEFGHIJK"), 1, api.ErrName}, {list("QSYS", "", "TEST QSYS/ APP"), 2, api.ErrName}, {list("a a", "", ""), 0, api.ErrName}, {list("QSYS APP QSYS2", "", "0"), 2, api.ErrMissing},
	{list("NOWHERE", "", ""), 0, api.ErrMissing}, {list("", "", "NOWHERE"), 0, api.ErrMissing}, {list("QSYS", "APP", "APP TEST PAY"), 3, api.ErrMissing}, {list("APP", "", "RUN"), 1, api.ErrMissing}, {list("APP", "app", "AP APP"), 1, api.ErrMissing}, {list("X X", "", ""), 0, api.ErrMissing}, {list("QSYS APP X QSYS", "", "APP a"), 2, api.ErrMissing},
	{list("QSYS QSYS", "", ""), 1, api.ErrDouble}, {list("QSYS", "", "QSYS"), 1, api.ErrDouble}, {list("", "", "APP TEST APP"), 2, api.ErrDouble}, {list("QSYS APP", "APP", "TEST APP"), 3, api.ErrDouble}, {list("QSYS APP TEST QSYS", "x", "x"), 3, api.ErrDouble}, {list("APP TEST APP", "", "X"), 2, api.ErrDouble}, {list("APP", "X", "APP"), 1, api.ErrDouble},
	{list("", "app", ""), 0, api.ErrName}, {list("QSYS", "*LIBL", "APP TEST"), 3, api.ErrName}, {list("QSYS", " ", ""), 1, api.ErrName}, {list("QSYS", "ABCDEFGHIJK", ""), 1, api.ErrName}, {list("QSYS", "APP/", "TEST"), 2, api.ErrName},
	{list("", "NOWHERE", ""), 0, api.ErrMissing}, {list("QSYS", "PAY", "APP TEST"), 3, api.ErrMissing}, {list("QSYS EMPTY", "QSYS2", "APP TEST"), 4, api.ErrMissing}, {list("QSYS EMPTY TEST APP", "AP", ""), 4, api.ErrMissing},
}

// P9.2: lists that are not valid, with the index of the entry.
func TestWrongLists(t *testing.T) {
	for _, x := range wrongLists {
		if n, e := library.CheckList(shop(), x.l); n != x.at || e != x.e {
			t.Errorf("CheckList(%v): %d, %v, not %d, %v", x.l, n, e, x.at, x.e)
		}
	}
	// A user profile, or a program in QSYS, with the name is not the library.
	d := directory(9, owned(pgm("QSYS", "APP"), 1), owned(name("QSYS", "APP", api.TypeUser), 2), owned(lib("B"), 3))
	if n, e := library.CheckList(d, list("QSYS", "", "B APP")); n != 2 || e != api.ErrMissing {
		t.Errorf("CheckList: %d, %v", n, e)
	}
	if n, e := library.CheckList(many(), list("A B C D E", "P", "F G H I J K L M")); n != 13 || e != api.ErrMissing {
		t.Errorf("CheckList: %d, %v", n, e)
	}
}

// P9.2 to P9.5: the error of the directory comes before all others, that of the list before all but it, both without an index but for CheckList.
func TestErrorsOfDirectoriesAndLists(t *testing.T) {
	for _, x := range wrongDirectories() {
		for _, l := range []api.LibraryList{{}, list("QSYS", "APP", "TEST"), list("A B C D E F", "", ""), list("a", "a", "a")} {
			if n, e := library.CheckList(x.d, l); n != 0 || e != x.e {
				t.Errorf("CheckList(%v, %v): %d, %v, not %v", x.d, l, n, e, x.e)
			}
			listComesFirst(t, x.d, l, x.e)
		}
		for _, n := range []api.ObjectName{{}, pgm("APP", "RUN"), name("APP", "RUN", 30), lib("QSYS"), lib("APP")} {
			for _, to := range []api.ObjectName{{}, pgm("QSYS", "NEW"), n} {
				d, e := library.Move(x.d, n, to.Library)
				nothing(t, "Move", d, e, x.e)
				d, e = library.Duplicate(x.d, n, to)
				nothing(t, "Duplicate", d, e, x.e)
			}
		}
	}
	for _, x := range wrongLists {
		listComesFirst(t, shop(), x.l, x.e)
	}
}

// listComesFirst calls the functions with a list with an error, and other arguments that are right or wrong.
func listComesFirst(t *testing.T, d api.Directory, l api.LibraryList, want api.Errno) {
	t.Helper()
	for _, q := range []api.QualifiedName{{}, qualified("", "RUN"), generic("*CURLIB", "R"), qualified("NOWHERE", "RUN"), qualified("APP", "RUN")} {
		if got, e := library.LibrariesFor(d, l, q); len(got) > 0 || e != want {
			t.Errorf("LibrariesFor(%v, %v): %v, %v, not %v", l, q, got, e, want)
		}
		for _, k := range []int{api.TypeProgram, api.None, -5} {
			unresolved(t, d, l, q, k, want)
			unmatched(t, d, l, q, k, want)
		}
	}
	for _, s := range []string{"", "a", "NOWHERE", "APP", "TEST", "EMPTY"} {
		for _, k := range []int{-1, api.PositionFirst, api.PositionReplace} {
			got, e := library.AddEntry(d, l, api.ListEntry{Library: s, Position: k, Reference: "TEST"})
			noList(t, "AddEntry", got, e, want)
		}
		got, e := library.RemoveEntry(d, l, s)
		noList(t, "RemoveEntry", got, e, want)
		got, e = library.SetCurrent(d, l, s)
		noList(t, "SetCurrent", got, e, want)
	}
}

func noList(t *testing.T, call string, l api.LibraryList, got, want api.Errno) {
	t.Helper()
	if l.Current != "" || len(l.System)+len(l.User) > 0 || got != want {
		t.Errorf("%s: %v, %v, not %v", call, l, got, want)
	}
}

func nothing(t *testing.T, call string, d api.Directory, got, want api.Errno) {
	t.Helper()
	if d.Next != 0 || len(d.Objects) > 0 || got != want {
		t.Errorf("%s: %v, %v, not %v", call, d, got, want)
	}
}

// P9.2: the libraries for names. Example 2 is among them.
func TestLibrariesFor(t *testing.T) {
	for _, x := range []struct {
		l       api.LibraryList
		library string
		want    string
	}{
		{list("QSYS", "APP", "TEST APP"), "", "QSYS APP TEST"}, {list("QSYS", "APP", "TEST APP"), "*LIBL", "QSYS APP TEST"}, {list("QSYS", "APP", "TEST APP"), "*USRLIBL", "TEST APP"}, {list("QSYS", "APP", "TEST APP"), "*CURLIB", "APP"}, {list("QSYS", "APP", "TEST APP"), "EMPTY", "EMPTY"}, {list("QSYS", "APP", "TEST APP"), "QSYS", "QSYS"},
		{list("QSYS", "", "TEST APP"), "", "QSYS TEST APP"}, {list("TEST QSYS", "QSYS", "APP"), "*LIBL", "TEST QSYS APP"}, {list("TEST QSYS", "QSYS", "APP"), "*CURLIB", "QSYS"}, {list("TEST", "TEST", ""), "", "TEST"}, {list("", "TEST", "TEST"), "", "TEST"}, {list("", "TEST", "TEST"), "*USRLIBL", "TEST"}, {list("", "TEST", "APP EMPTY TEST QSYS"), "", "TEST APP EMPTY QSYS"}, {list("APP TEST", "EMPTY", "QSYS"), "", "APP TEST EMPTY QSYS"},
		{list("", "", ""), "", ""}, {list("", "", ""), "*LIBL", ""}, {list("", "", ""), "*USRLIBL", ""}, {list("QSYS", "APP", ""), "*USRLIBL", ""}, {list("", "", ""), "APP", "APP"}, {list("", "", ""), "QSYS", "QSYS"}, {list("", "QSYS", ""), "", "QSYS"}, {list("APP QSYS TEST EMPTY", "", ""), "", "APP QSYS TEST EMPTY"},
	} {
		for _, q := range []api.QualifiedName{qualified(x.library, "X"), generic(x.library, "ABCDEFGHIJ")} {
			l := copyOfList(x.l)
			got, e := library.LibrariesFor(shop(), l, q)
			if strings.Join(got, " ") != x.want || e != api.OK {
				t.Errorf("LibrariesFor(%v, %v): %q, %v, not %q", l, q, got, e, x.want)
			}
			for i := range got {
				got[i] = "changed"
			}
			if !sameList(l, x.l) {
				t.Errorf("LibrariesFor(%v, %v) shares memory with the list", x.l, q)
			}
		}
	}
	full := list("A B C D E", "N", "F G H I J K L M")
	if got, e := library.LibrariesFor(many(), full, qualified("", "X")); strings.Join(got, "") != "ABCDENFGHIJKLM" || e != api.OK {
		t.Errorf("LibrariesFor(%v): %v, %v", full, got, e)
	}
}

// P9.2: names for which there are no libraries.
func TestNoLibraries(t *testing.T) {
	l, none := list("QSYS", "APP", "TEST"), list("QSYS", "", "TEST")
	for _, x := range []struct {
		l api.LibraryList
		q api.QualifiedName
		e api.Errno
	}{
		{l, api.QualifiedName{}, api.ErrName}, {l, qualified("app", "RUN"), api.ErrName}, {l, qualified("", "run"), api.ErrName}, {l, generic("*LIBL", ""), api.ErrName}, {l, qualified("*LIB", "RUN"), api.ErrName}, {l, qualified("NOWHERE", "RUN*"), api.ErrName}, {none, qualified("*CURLIB", ""), api.ErrName}, {none, qualified("*CURLIB", "ABCDEFGHIJK"), api.ErrName},
		{l, qualified("NOWHERE", "RUN"), api.ErrMissing}, {l, generic("AP", "RUN"), api.ErrMissing}, {l, qualified("APPS", "RUN"), api.ErrMissing}, {none, qualified("PAY", "RUN"), api.ErrMissing}, {none, qualified("QSYS2", "RUN"), api.ErrMissing}, {none, qualified("CURLIB", "RUN"), api.ErrMissing},
		{none, qualified("*CURLIB", "RUN"), api.ErrNone}, {none, generic("*CURLIB", "A"), api.ErrNone}, {api.LibraryList{}, qualified("*CURLIB", "X"), api.ErrNone},
	} {
		if got, e := library.LibrariesFor(shop(), x.l, x.q); len(got) > 0 || e != x.e {
			t.Errorf("LibrariesFor(%v, %v): %v, %v, not %v", x.l, x.q, got, e, x.e)
		}
		for _, k := range []int{api.TypeProgram, api.None, -2, api.ObjectTypes} {
			unresolved(t, shop(), x.l, x.q, k, x.e)
			unmatched(t, shop(), x.l, x.q, k, x.e)
		}
	}
}
