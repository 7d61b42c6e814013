package library_test

import (
	"math"
	"slices"
	"testing"

	"midrange/api"
	"midrange/library"
)

func unresolved(t *testing.T, d api.Directory, l api.LibraryList, q api.QualifiedName, k int, want api.Errno) {
	t.Helper()
	if segment, e := library.Resolve(d, l, api.Resolution{Name: q, Type: k}); segment != 0 || e != want {
		t.Errorf("Resolve(%v, %v, %d): %d, %v, not %v", l, q, k, segment, e, want)
	}
}

func unmatched(t *testing.T, d api.Directory, l api.LibraryList, q api.QualifiedName, k int, want api.Errno) {
	t.Helper()
	if got, e := library.Matching(d, l, api.Resolution{Name: q, Type: k}); len(got) > 0 || e != want {
		t.Errorf("Matching(%v, %v, %d): %v, %v, not %v", l, q, k, got, e, want)
	}
}

// P9.3: what is resolved to which segment. Example 3 is among it.
func TestResolve(t *testing.T) {
	l, other := list("QSYS", "APP", "TEST APP"), list("QSYS", "", "TEST APP")
	for _, x := range []struct {
		l       api.LibraryList
		q       api.QualifiedName
		t       int
		segment int
	}{
		{l, qualified("*USRLIBL", "RUN"), api.TypeProgram, 13}, {l, qualified("", "RUN"), api.TypeProgram, 14}, {l, qualified("*LIBL", "RUN"), api.TypeProgram, 14}, {l, qualified("*CURLIB", "RUN"), api.TypeProgram, 14}, {l, qualified("TEST", "RUN"), api.TypeProgram, 13}, {l, qualified("APP", "RUN"), api.TypeProgram, 14}, {other, qualified("", "RUN"), api.TypeProgram, 13}, {other, qualified("*LIBL", "RUN"), api.TypeProgram, 13},
		{l, qualified("", "RUN"), api.TypeCommand, 10}, {l, qualified("", "RUN"), api.TypeJournal, 11}, {l, qualified("", "PAY"), api.TypeProgram, 5}, {l, qualified("", "PAY"), api.TypeFile, 8}, {other, qualified("", "PAY"), api.TypeFile, 16}, {other, qualified("", "PAY"), api.TypeModule, 12}, {other, qualified("", "PAY"), api.TypeCommand, 6}, {other, qualified("", "PAY"), api.TypeProgram, 5}, {l, qualified("", "PA"), api.TypeProgram, 19}, {l, qualified("", "PAYROLL"), api.TypeProgram, 7},
		{l, qualified("QSYS", "APP"), api.TypeLibrary, 1}, {l, qualified("", "APP"), api.TypeLibrary, 1}, {l, qualified("", "APP"), api.TypeUser, 20}, {l, qualified("*LIBL", "EMPTY"), api.TypeLibrary, 3}, {l, qualified("TEST", "RECEIVER"), api.TypeReceiver, 18}, {api.LibraryList{}, qualified("TEST", "QUEUE"), api.TypeDataQueue, 17}, {list("", "QSYS", ""), qualified("*CURLIB", "TEST"), api.TypeLibrary, 4}, {list("", "", "EMPTY QSYS"), qualified("*USRLIBL", "TEST"), api.TypeLibrary, 4},
	} {
		if segment, e := library.Resolve(shop(), x.l, api.Resolution{Name: x.q, Type: x.t}); segment != x.segment || e != api.OK {
			t.Errorf("Resolve(%v, %v, %d): %d, %v, not %d", x.l, x.q, x.t, segment, e, x.segment)
		}
	}
}

// P9.3: names and types that are not resolved.
func TestNotResolved(t *testing.T) {
	l := list("QSYS", "APP", "TEST APP")
	for _, k := range []int{-1, api.None, -2, api.ObjectTypes, api.ObjectTypes + 1, math.MinInt, math.MaxInt} {
		unresolved(t, shop(), l, qualified("", "RUN"), k, api.ErrKind)
		unresolved(t, shop(), l, qualified("", "NOTHING"), k, api.ErrKind)
		unresolved(t, shop(), l, generic("", "RUN"), k, api.ErrForm)
		unresolved(t, shop(), l, generic("NOWHERE", "RUN"), k, api.ErrMissing)
	}
	unresolved(t, shop(), l, generic("*USRLIBL", "RUN"), api.TypeProgram, api.ErrForm)
	unresolved(t, shop(), l, generic("", "NOTHING"), api.TypeProgram, api.ErrForm)
	for _, x := range []struct {
		l api.LibraryList
		q api.QualifiedName
		t int
	}{
		{l, qualified("", "RU"), api.TypeProgram}, {l, qualified("", "RUNN"), api.TypeProgram}, {l, qualified("", "RUN"), api.TypeModule}, {l, qualified("QSYS", "RUN"), api.TypeProgram}, {l, qualified("EMPTY", "RUN"), api.TypeProgram}, {l, qualified("APP", "QUEUE"), api.TypeDataQueue}, {l, qualified("*CURLIB", "QUEUE"), api.TypeDataQueue}, {l, qualified("*USRLIBL", "RUN"), api.TypeCommand}, {l, qualified("", "QSYS"), api.TypeLibrary}, {l, qualified("QSYS", "QSYS"), api.TypeLibrary},
		{list("APP", "EMPTY", "TEST"), qualified("", "APP"), api.TypeLibrary}, {api.LibraryList{}, qualified("", "RUN"), api.TypeProgram}, {api.LibraryList{}, qualified("*USRLIBL", "RUN"), api.TypeProgram}, {list("APP", "EMPTY", "TEST"), qualified("*CURLIB", "RUN"), api.TypeProgram}, {list("APP", "", "EMPTY"), qualified("*USRLIBL", "RUN"), api.TypeProgram}, {l, qualified("APP", "APP"), api.TypeLibrary},
	} {
		unresolved(t, shop(), x.l, x.q, x.t, api.ErrMissing)
		unmatched(t, shop(), x.l, x.q, x.t, api.OK)
	}
}

// P9.3: all that matches, in the order of the search.
func TestMatching(t *testing.T) {
	l, other := list("QSYS", "APP", "TEST APP"), list("TEST", "EMPTY", "APP QSYS")
	module, command := name("TEST", "PAY", api.TypeModule), name("QSYS", "PAY", api.TypeCommand)
	for _, x := range []struct {
		l    api.LibraryList
		q    api.QualifiedName
		t    int
		want []api.ObjectName
	}{
		{l, qualified("", "RUN"), api.TypeProgram, []api.ObjectName{pgm("APP", "RUN"), pgm("TEST", "RUN")}}, {l, qualified("*USRLIBL", "RUN"), api.TypeProgram, []api.ObjectName{pgm("TEST", "RUN"), pgm("APP", "RUN")}}, {l, qualified("*CURLIB", "RUN"), api.TypeProgram, []api.ObjectName{pgm("APP", "RUN")}}, {l, qualified("TEST", "RUN"), api.None, []api.ObjectName{pgm("TEST", "RUN"), name("TEST", "RUN", api.TypeJournal)}}, {other, qualified("", "RUN"), api.None, []api.ObjectName{pgm("TEST", "RUN"), name("TEST", "RUN", api.TypeJournal), pgm("APP", "RUN"), name("QSYS", "RUN", api.TypeCommand)}},
		{l, qualified("", "PAY"), api.None, []api.ObjectName{command, pgm("APP", "PAY"), file("APP", "PAY"), module, file("TEST", "PAY")}}, {l, generic("", "PAY"), api.None, []api.ObjectName{command, pgm("APP", "PAY"), file("APP", "PAY"), pgm("APP", "PAYROLL"), module, file("TEST", "PAY")}}, {l, generic("*LIBL", "PAYR"), api.None, []api.ObjectName{pgm("APP", "PAYROLL")}}, {l, generic("", "PA"), api.TypeProgram, []api.ObjectName{pgm("APP", "PAY"), pgm("APP", "PAYROLL"), pgm("TEST", "PA")}}, {other, generic("", "P"), api.TypeFile, []api.ObjectName{file("TEST", "PAY"), file("APP", "PAY")}}, {l, generic("*USRLIBL", "R"), api.None, []api.ObjectName{name("TEST", "RECEIVER", api.TypeReceiver), pgm("TEST", "RUN"), name("TEST", "RUN", api.TypeJournal), pgm("APP", "RUN")}},
		{l, generic("QSYS", "A"), api.None, []api.ObjectName{lib("APP"), name("QSYS", "APP", api.TypeUser)}}, {l, qualified("", "APP"), api.TypeLibrary, []api.ObjectName{lib("APP")}}, {l, generic("APP", "PAYROLL"), api.None, []api.ObjectName{pgm("APP", "PAYROLL")}},
		{l, generic("", "PAYROLLS"), api.None, nil}, {l, generic("EMPTY", "A"), api.None, nil}, {other, generic("*CURLIB", "A"), api.None, nil}, {api.LibraryList{}, generic("", "A"), api.None, nil}, {l, qualified("", "PAYR"), api.None, nil}, {l, generic("", "UN"), api.None, nil}, {l, generic("", "ABCDEFGHIJ"), api.TypeQuery, nil},
	} {
		if got, e := library.Matching(shop(), x.l, api.Resolution{Name: x.q, Type: x.t}); !slices.Equal(got, x.want) || e != api.OK {
			t.Errorf("Matching(%v, %v, %d): %v, %v, not %v", x.l, x.q, x.t, got, e, x.want)
		}
	}
}

// P9.3: types that are unknown; None is none of them.
func TestNotMatched(t *testing.T) {
	l := list("QSYS", "APP", "TEST APP")
	for _, k := range []int{-2, api.ObjectTypes, api.ObjectTypes + 1, math.MinInt, math.MaxInt} {
		for _, q := range []api.QualifiedName{qualified("", "RUN"), generic("", "RUN"), qualified("", "NOTHING")} {
			unmatched(t, shop(), l, q, k, api.ErrKind)
		}
		unmatched(t, shop(), l, qualified("NOWHERE", "RUN"), k, api.ErrMissing)
	}
}
