package object_test

import (
	"math"
	"slices"
	"strings"
	"testing"

	"midrange/api"
	"midrange/object"
)

// table is the chapter's one: each type with its operations.
const table = `
*LIB | rename, destroy, save
*PGM | rename, move, copy, destroy, call, save
*SRVPGM | rename, move, copy, destroy, save
*MODULE | rename, move, copy, destroy, save
*FILE | rename, move, copy, destroy, read, change, clear, save
*USRPRF | destroy, read, change, save
*AUTL | destroy, read, change, save
*MSGQ | rename, move, copy, destroy, read, change, clear, save
*MSGF | rename, move, copy, destroy, read, change, save
*JOBQ | rename, move, destroy, read, change, clear, save
*OUTQ | rename, move, destroy, read, change, clear, save
*JOBD | rename, move, copy, destroy, read, change, save
*SBSD | rename, move, copy, destroy, read, change, save
*CLS | rename, move, copy, destroy, read, change, save
*CMD | rename, move, copy, destroy, change, call, save
*JRN | destroy, read, save
*JRNRCV | destroy, read, save
*DTAARA | rename, move, copy, destroy, read, change, save
*DTAQ | rename, move, destroy, read, change, clear, save
*SAVF | rename, move, copy, destroy, read, clear
*USRSPC | rename, move, copy, destroy, read, change, save
*USRIDX | rename, move, copy, destroy, read, change, save
*USRQ | rename, move, destroy, read, change, clear, save
*DEVD | rename, destroy, read, change
*LIND | rename, destroy, read, change
*CTLD | rename, destroy, read, change
*EDTD | destroy, read, save
*TBL | rename, move, copy, destroy, read, save
*MENU | rename, move, copy, destroy, call, save
*QRYDFN | rename, move, copy, destroy, read, change, call, save`

var operations = map[string]int{
	"rename": api.OperationRename, "move": api.OperationMove, "copy": api.OperationCopy, "destroy": api.OperationDestroy, "read": api.OperationRead,
	"change": api.OperationChange, "call": api.OperationCall, "clear": api.OperationClear, "save": api.OperationSave,
}

// systemTypes are the types whose objects are in QSYS.
var systemTypes = []string{"*LIB", "*USRPRF", "*AUTL", "*DEVD", "*LIND", "*CTLD"}

type row struct {
	name    string
	permits []string
}

// rows are the lines of the table.
var rows = rowsOf(table)

func rowsOf(table string) []row {
	var l []row
	for _, line := range strings.Split(strings.TrimSpace(table), "\n") {
		name, permits, _ := strings.Cut(line, " | ")
		l = append(l, row{name, strings.Split(permits, ", ")})
	}
	return l
}

// permitted says what the table does: whether a type permits an operation.
func permitted(t int, operation string) bool {
	return slices.Contains(rows[t].permits, operation)
}

// P8.1: the names and the operations of all types.
func TestTypes(t *testing.T) {
	if len(rows) != api.ObjectTypes {
		t.Fatalf("%d types", len(rows))
	}
	for i, x := range rows {
		if s, e := object.TypeName(i); s != x.name || e != api.OK {
			t.Errorf("TypeName(%d): %q, %v, not %q", i, s, e, x.name)
		}
		if got, e := object.TypeOf(x.name); got != i || e != api.OK {
			t.Errorf("TypeOf(%q): %d, %v, not %d", x.name, got, e, i)
		}
		var want []int
		for _, word := range x.permits {
			want = append(want, operations[word])
		}
		slices.Sort(want)
		if l, e := object.OperationsOf(i); !slices.Equal(l, want) || e != api.OK {
			t.Errorf("OperationsOf(%s): %v, %v, not %v", x.name, l, e, want)
		}
	}
}

// P8.1: some constants of package api, by their names.
func TestTypesByName(t *testing.T) {
	for _, x := range []struct {
		t    int
		name string
	}{
		{api.TypeLibrary, "*LIB"}, {api.TypeProgram, "*PGM"}, {api.TypeFile, "*FILE"}, {api.TypeUser, "*USRPRF"}, {api.TypeAuthList, "*AUTL"}, {api.TypeReceiver, "*JRNRCV"}, {api.TypeDataArea, "*DTAARA"}, {api.TypeSaveFile, "*SAVF"},
		{api.TypeSpace, "*USRSPC"}, {api.TypeDevice, "*DEVD"}, {api.TypeLine, "*LIND"}, {api.TypeController, "*CTLD"}, {api.TypeEdit, "*EDTD"}, {api.TypeTable, "*TBL"}, {api.TypeMenu, "*MENU"}, {api.TypeQuery, "*QRYDFN"},
	} {
		if s, e := object.TypeName(x.t); s != x.name || e != api.OK {
			t.Errorf("TypeName(%d): %q, %v, not %q", x.t, s, e, x.name)
		}
	}
}

// P8.1: numbers and names that are of no type.
func TestUnknownTypes(t *testing.T) {
	for _, n := range []int{-1, api.ObjectTypes, api.ObjectTypes + 1, api.None, math.MinInt, math.MaxInt, 256, -30} {
		if s, e := object.TypeName(n); s != "" || e != api.ErrKind {
			t.Errorf("TypeName(%d): %q, %v", n, s, e)
		}
		if l, e := object.OperationsOf(n); len(l) != 0 || e != api.ErrKind {
			t.Errorf("OperationsOf(%d): %v, %v", n, l, e)
		}
	}
	wrong := []string{"", "*", "LIB", "*lib", "*LIB ", " *LIB", "*LIBL", "*LI", "*QRYDFN*", "**LIB", "*ALL", "*PGM\x00", "*FIL\xc9"}
	for _, x := range rows {
		wrong = append(wrong, x.name[1:], strings.ToLower(x.name), x.name+"X", x.name[:len(x.name)-1])
	}
	for _, s := range wrong {
		if n, e := object.TypeOf(s); n != 0 || e != api.ErrName {
			t.Errorf("TypeOf(%q): %d, %v", s, n, e)
		}
	}
}

// P8.1: what a caller does to the operations of a type changes nothing.
func TestOperationsAreCopies(t *testing.T) {
	for n := range api.ObjectTypes {
		first, _ := object.OperationsOf(n)
		before := slices.Clone(first)
		for i := range first {
			first[i] = -7
		}
		if l, e := object.OperationsOf(n); !slices.Equal(l, before) || e != api.OK {
			t.Errorf("OperationsOf(%d), again: %v, %v, not %v", n, l, e, before)
		}
	}
}
