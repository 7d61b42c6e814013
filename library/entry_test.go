package library_test

import (
	"math"
	"strings"
	"testing"

	"midrange/api"
	"midrange/library"
)

func entry(library string, position int, reference string) api.ListEntry {
	return api.ListEntry{Library: library, Position: position, Reference: reference}
}

// expectList compares the result of a call, which has no part in the argument, nor one part of it in the other.
func expectList(t *testing.T, call string, before, got api.LibraryList, e api.Errno, want api.LibraryList) {
	t.Helper()
	if !sameList(got, want) || e != api.OK {
		t.Errorf("%s: %v, %v, not %v", call, got, e, want)
	}
	kept := copyOfList(before)
	for i := range got.System {
		got.System[i] = "changed"
	}
	if e == api.OK && strings.Join(got.User, " ") != strings.Join(want.User, " ") {
		t.Errorf("%s: the parts share memory", call)
	}
	for i := range got.User {
		got.User[i] = "changed"
	}
	if !sameList(kept, before) {
		t.Errorf("%s shares memory with its argument", call)
	}
}

// P9.5: entries at all positions.
func TestAddEntry(t *testing.T) {
	for _, x := range []struct {
		l    api.LibraryList
		e    api.ListEntry
		user string
	}{
		{list("", "", ""), entry("A", api.PositionFirst, ""), "A"}, {list("", "", ""), entry("QSYS", api.PositionLast, ""), "QSYS"}, {list("A B", "C", ""), entry("C", api.PositionLast, ""), "C"},
		{list("A", "B", "C D E"), entry("F", api.PositionFirst, ""), "F C D E"}, {list("A", "B", "C D E"), entry("F", api.PositionLast, ""), "C D E F"}, {list("A", "B", "C D E"), entry("B", api.PositionFirst, ""), "B C D E"},
		{list("A", "B", "C D E"), entry("F", api.PositionAfter, "C"), "C F D E"}, {list("A", "B", "C D E"), entry("F", api.PositionAfter, "D"), "C D F E"}, {list("A", "B", "C D E"), entry("F", api.PositionAfter, "E"), "C D E F"}, {list("A", "B", "C"), entry("QSYS", api.PositionAfter, "C"), "C QSYS"},
		{list("A", "B", "C D E"), entry("F", api.PositionBefore, "C"), "F C D E"}, {list("A", "B", "C D E"), entry("F", api.PositionBefore, "D"), "C F D E"}, {list("A", "B", "C D E"), entry("F", api.PositionBefore, "E"), "C D F E"},
		{list("A", "B", "C D E"), entry("F", api.PositionReplace, "C"), "F D E"}, {list("A", "B", "C D E"), entry("F", api.PositionReplace, "D"), "C F E"}, {list("A", "B", "C D E"), entry("F", api.PositionReplace, "E"), "C D F"}, {list("A", "B", "C D E"), entry("D", api.PositionReplace, "D"), "C D E"}, {list("A", "", "C"), entry("C", api.PositionReplace, "C"), "C"},
		{list("A B C D E", "O", "F G H I J K L"), entry("M", api.PositionFirst, ""), "M F G H I J K L"}, {list("A B C D E", "O", "F G H I J K L"), entry("O", api.PositionAfter, "L"), "F G H I J K L O"}, {list("A B C D E", "O", "F G H I J K L M"), entry("O", api.PositionReplace, "I"), "F G H O J K L M"}, {list("A B C D E", "O", "F G H I J K L M"), entry("M", api.PositionReplace, "M"), "F G H I J K L M"},
	} {
		want := x.l
		want.User = strings.Fields(x.user)
		got, e := library.AddEntry(many(), x.l, x.e)
		expectList(t, "AddEntry", x.l, got, e, want)
	}
}

// P9.5: entries that cannot be added.
func TestNotAdded(t *testing.T) {
	l, full := list("A B", "M", "C D E"), list("A B C D E", "O", "F G H I J K L M")
	for _, x := range []struct {
		l    api.LibraryList
		e    api.ListEntry
		want api.Errno
	}{
		{l, entry("", api.PositionFirst, ""), api.ErrName}, {l, entry("a", -1, "x"), api.ErrName}, {l, entry("*LIBL", api.PositionLast, ""), api.ErrName}, {full, entry("*CURLIB", api.PositionLast, ""), api.ErrName}, {l, entry("ABCDEFGHIJK", api.PositionAfter, "NO"), api.ErrName},
		{l, entry("P", api.PositionFirst, ""), api.ErrMissing}, {l, entry("RUN", 99, "C"), api.ErrMissing}, {full, entry("NOWHERE", api.PositionLast, "A"), api.ErrMissing},
		{l, entry("F", -1, ""), api.ErrKind}, {l, entry("F", api.PositionKinds, ""), api.ErrKind}, {l, entry("A", api.PositionKinds, "C"), api.ErrKind}, {full, entry("A", math.MinInt, "NO"), api.ErrKind}, {l, entry("C", math.MaxInt, "C"), api.ErrKind},
		{l, entry("F", api.PositionFirst, "C"), api.ErrForm}, {l, entry("F", api.PositionLast, "x"), api.ErrForm}, {l, entry("A", api.PositionFirst, "NO"), api.ErrForm}, {full, entry("N", api.PositionLast, "M"), api.ErrForm}, {l, entry("F", api.PositionAfter, ""), api.ErrForm}, {l, entry("A", api.PositionBefore, ""), api.ErrForm}, {full, entry("N", api.PositionReplace, ""), api.ErrForm}, {list("", "", ""), entry("N", api.PositionReplace, ""), api.ErrForm},
		{l, entry("F", api.PositionAfter, "A"), api.ErrNone}, {l, entry("F", api.PositionBefore, "M"), api.ErrNone}, {l, entry("F", api.PositionReplace, "F"), api.ErrNone}, {l, entry("A", api.PositionAfter, "x"), api.ErrNone}, {l, entry("A", api.PositionReplace, "A"), api.ErrNone}, {full, entry("F", api.PositionBefore, "N"), api.ErrNone}, {list("A", "A", ""), entry("B", api.PositionReplace, "A"), api.ErrNone}, {l, entry("C", api.PositionAfter, "*LIBL"), api.ErrNone},
		{l, entry("A", api.PositionFirst, ""), api.ErrDouble}, {l, entry("B", api.PositionReplace, "C"), api.ErrDouble}, {l, entry("C", api.PositionLast, ""), api.ErrDouble}, {l, entry("E", api.PositionFirst, ""), api.ErrDouble}, {l, entry("C", api.PositionAfter, "C"), api.ErrDouble}, {l, entry("C", api.PositionBefore, "C"), api.ErrDouble}, {l, entry("D", api.PositionReplace, "C"), api.ErrDouble}, {l, entry("C", api.PositionReplace, "D"), api.ErrDouble}, {full, entry("F", api.PositionLast, ""), api.ErrDouble}, {full, entry("A", api.PositionBefore, "F"), api.ErrDouble}, {full, entry("M", api.PositionReplace, "F"), api.ErrDouble}, {full, entry("E", api.PositionReplace, "F"), api.ErrDouble},
		{full, entry("N", api.PositionFirst, ""), api.ErrFull}, {full, entry("O", api.PositionLast, ""), api.ErrFull}, {full, entry("N", api.PositionAfter, "M"), api.ErrFull}, {full, entry("N", api.PositionBefore, "F"), api.ErrFull}, {full, entry("QSYS", api.PositionLast, ""), api.ErrFull},
	} {
		got, e := library.AddEntry(many(), x.l, x.e)
		noList(t, "AddEntry of "+x.e.Library+" at "+x.e.Reference, got, e, x.want)
	}
}

// P9.5: entries that are removed, and ones that are not there.
func TestRemoveEntry(t *testing.T) {
	l := list("A B", "D", "C D E")
	for _, x := range []struct {
		l       api.LibraryList
		library string
		user    string
	}{
		{l, "C", "D E"}, {l, "D", "C E"}, {l, "E", "C D"}, {list("", "", "QSYS"), "QSYS", ""}, {list("A B C D E", "", "F G H I J K L M"), "M", "F G H I J K L"},
	} {
		want := x.l
		want.User = strings.Fields(x.user)
		got, e := library.RemoveEntry(many(), x.l, x.library)
		expectList(t, "RemoveEntry", x.l, got, e, want)
	}
	for _, s := range []string{"", "a", "A", "B", "F", "P", "NOWHERE", "*CURLIB", "c", "C ", "CC", "QSYS"} {
		got, e := library.RemoveEntry(many(), l, s)
		noList(t, "RemoveEntry of "+s, got, e, api.ErrNone)
	}
	for _, none := range []api.LibraryList{{}, list("A", "A", "")} {
		got, e := library.RemoveEntry(many(), none, "A")
		noList(t, "RemoveEntry", got, e, api.ErrNone)
	}
}

// P9.5: current libraries.
func TestSetCurrent(t *testing.T) {
	for _, l := range append([]api.LibraryList{{}, list("A", "B", "C D")}, rightListsOfMany...) {
		for _, s := range []string{"", "A", "C", "O", "QSYS", l.Current} {
			want := l
			want.Current = s
			got, e := library.SetCurrent(many(), l, s)
			expectList(t, "SetCurrent", l, got, e, want)
		}
		for _, s := range []string{" ", "a", "*CURLIB", "*LIBL", "ABCDEFGHIJK", "A*", "0", "A/"} {
			got, e := library.SetCurrent(many(), l, s)
			noList(t, "SetCurrent to "+s, got, e, api.ErrName)
		}
		for _, s := range []string{"P", "RUN", "QSYS2", "NOWHERE", "AA"} {
			got, e := library.SetCurrent(many(), l, s)
			noList(t, "SetCurrent to "+s, got, e, api.ErrMissing)
		}
	}
}
