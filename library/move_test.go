package library_test

import (
	"math"
	"slices"
	"testing"

	"midrange/api"
	"midrange/library"
	"midrange/object"
)

// expect compares the result of a call, which has no part in the argument.
func expect(t *testing.T, call string, before, got api.Directory, e api.Errno, want api.Directory) {
	t.Helper()
	if !same(got, want) || e != api.OK {
		t.Errorf("%s: %v, %v, not %v", call, got, e, want)
	}
	kept := copyOf(before)
	for i := range got.Objects {
		got.Objects[i].Name.Name = "changed"
	}
	if !same(kept, before) {
		t.Errorf("%s shares memory with its argument", call)
	}
}

// put returns the directory in which the object with the index from is another one, at the index to.
func put(d api.Directory, from, to int, o api.Object) api.Directory {
	l := slices.Delete(slices.Clone(d.Objects), from, from+1)
	return api.Directory{Objects: slices.Insert(l, to, o), Next: d.Next}
}

// P9.4: objects that are moved, at their new places.
func TestMove(t *testing.T) {
	for _, x := range []struct {
		from    int
		library string
		to      int
	}{
		{0, "EMPTY", 4}, {0, "QSYS", 6}, {0, "TEST", 10}, {1, "TEST", 11}, {3, "TEST", 13}, {4, "QSYS", 8}, {4, "EMPTY", 4}, {8, "APP", 3}, {8, "EMPTY", 5}, {8, "TEST", 13}, {9, "TEST", 16}, {9, "APP", 5}, {11, "APP", 1}, {11, "QSYS", 8}, {12, "QSYS", 8}, {12, "APP", 2}, {12, "EMPTY", 5}, {14, "QSYS", 9}, {14, "APP", 4}, {16, "QSYS", 9},
	} {
		d := shop()
		o := d.Objects[x.from]
		o.Name.Library = x.library
		got, e := library.Move(d, d.Objects[x.from].Name, x.library)
		expect(t, "Move to "+x.library, d, got, e, put(d, x.from, x.to, o))
	}
	// A full directory without a free segment does not hinder a move.
	d := directory(10000, owned(pgm("QSYS", "A"), 1), owned(lib("B"), 9999))
	for _, n := range []string{"C", "D", "E", "F", "G", "H", "I", "J", "K", "L", "M", "N", "O", "P", "Q", "R", "S", "T", "U", "V", "W", "X", "Y", "Z", "Z1", "Z2", "Z3", "Z4", "Z5", "Z6", "Z7", "Z8", "Z9", "ZA", "ZB", "ZC", "ZD", "ZE"} {
		d.Objects = append(d.Objects, owned(pgm("QSYS", n), len(d.Objects)))
	}
	o := d.Objects[0]
	o.Name.Library = "B"
	got, e := library.Move(d, d.Objects[0].Name, "B")
	expect(t, "Move", d, got, e, put(d, 0, 0, o))
}

// P9.4: objects that cannot be moved.
func TestNotMoved(t *testing.T) {
	d := shop()
	for _, x := range []struct {
		n       api.ObjectName
		library string
		e       api.Errno
	}{
		{name("APP", "RUN", 30), "TEST", api.ErrKind}, {pgm("app", "RUN"), "TEST", api.ErrName}, {pgm("APP", ""), "", api.ErrName}, {lib("QSYS"), "TEST", api.ErrClash}, {name("APP", "TEST", api.TypeLibrary), "TEST", api.ErrClash}, {pgm("APP", "NOTHING"), "TEST", api.ErrMissing}, {pgm("NOWHERE", "RUN"), "app", api.ErrMissing}, {pgm("EMPTY", "RUN"), "TEST", api.ErrMissing},
		{lib("EMPTY"), "APP", api.ErrRefused}, {lib("EMPTY"), "QSYS", api.ErrRefused}, {name("QSYS", "APP", api.TypeUser), "app", api.ErrRefused}, {name("TEST", "RUN", api.TypeJournal), "NOWHERE", api.ErrRefused}, {name("TEST", "RECEIVER", api.TypeReceiver), "TEST", api.ErrRefused},
		{pgm("APP", "RUN"), "", api.ErrName}, {pgm("APP", "RUN"), "app", api.ErrName}, {pgm("APP", "RUN"), "*CURLIB", api.ErrName}, {pgm("APP", "RUN"), "*LIBL", api.ErrName}, {pgm("APP", "RUN"), "ABCDEFGHIJK", api.ErrName},
		{pgm("APP", "RUN"), "NOWHERE", api.ErrMissing}, {pgm("APP", "RUN"), "RUN", api.ErrMissing}, {pgm("APP", "RUN"), "AP", api.ErrMissing}, {pgm("APP", "RUN"), "QSYS2", api.ErrMissing},
		{pgm("APP", "RUN"), "TEST", api.ErrExists}, {pgm("APP", "RUN"), "APP", api.ErrExists}, {file("APP", "PAY"), "TEST", api.ErrExists}, {file("TEST", "PAY"), "APP", api.ErrExists}, {name("QSYS", "PAY", api.TypeCommand), "QSYS", api.ErrExists},
	} {
		got, e := library.Move(d, x.n, x.library)
		nothing(t, "Move", got, e, x.e)
	}
}

// P9.4: objects that are duplicated.
func TestDuplicate(t *testing.T) {
	for _, x := range []struct {
		from int
		to   api.ObjectName
		at   int
	}{
		{0, file("APP", "DATA2"), 1}, {0, file("TEST", "DATA"), 11}, {0, file("EMPTY", "PAY"), 5}, {0, file("QSYS", "DATA"), 7}, {1, pgm("APP", "A"), 0}, {1, pgm("TEST", "PAY"), 12}, {2, file("APP", "RUN"), 5}, {8, name("QSYS", "PAY2", api.TypeCommand), 9}, {8, name("APP", "PAY", api.TypeCommand), 3}, {12, name("EMPTY", "ABCDEFGHIJ", api.TypeModule), 5}, {16, pgm("TEST", "RUN2"), 18}, {16, pgm("TEST", "ZZ"), 18}, {16, pgm("QSYS", "APP"), 6},
	} {
		d := shop()
		o := d.Objects[x.from]
		o.Name, o.Segment = x.to, 21
		want := api.Directory{Objects: slices.Insert(slices.Clone(d.Objects), x.at, o), Next: 22}
		got, e := library.Duplicate(d, d.Objects[x.from].Name, x.to)
		expect(t, "Duplicate to "+x.to.Library+"/"+x.to.Name, d, got, e, want)
	}
}

// P9.4: objects that cannot be duplicated.
func TestNotDuplicated(t *testing.T) {
	d, last, full := shop(), directory(10000, shop().Objects...), shop()
	for i := range 22 {
		full.Objects = append(full.Objects, owned(pgm("TEST", "Z"+string(rune('A'+i))), 100+i))
	}
	full.Next = 200
	for _, x := range []struct {
		d     api.Directory
		n, to api.ObjectName
		e     api.Errno
	}{
		{d, name("APP", "RUN", 30), pgm("TEST", "NEW"), api.ErrKind}, {d, pgm("app", "RUN"), pgm("TEST", "NEW"), api.ErrName}, {d, lib("QSYS"), lib("NEW"), api.ErrClash}, {d, pgm("APP", "NOTHING"), pgm("TEST", "NEW"), api.ErrMissing}, {d, pgm("APP", "NOTHING"), pgm("", ""), api.ErrMissing},
		{d, lib("EMPTY"), lib("NEW"), api.ErrRefused}, {d, name("QSYS", "APP", api.TypeUser), name("QSYS", "NEW", -1), api.ErrRefused}, {d, name("TEST", "QUEUE", api.TypeDataQueue), name("TEST", "NEW", api.TypeDataQueue), api.ErrRefused}, {d, name("TEST", "RUN", api.TypeJournal), pgm("", ""), api.ErrRefused}, {d, name("TEST", "RECEIVER", api.TypeReceiver), name("TEST", "RECEIVER", api.TypeReceiver), api.ErrRefused},
		{d, pgm("APP", "RUN"), name("APP", "NEW", 30), api.ErrKind}, {d, pgm("APP", "RUN"), name("APP", "NEW", api.None), api.ErrKind}, {d, pgm("APP", "RUN"), file("APP", "new"), api.ErrName}, {d, pgm("APP", "RUN"), pgm("*LIBL", "NEW"), api.ErrName}, {d, pgm("APP", "RUN"), api.ObjectName{}, api.ErrName}, {d, pgm("APP", "RUN"), lib("QSYS"), api.ErrClash}, {d, pgm("APP", "RUN"), name("APP", "NEW", api.TypeUser), api.ErrClash},
		{d, pgm("APP", "RUN"), file("APP", "NEW"), api.ErrType}, {d, pgm("APP", "RUN"), lib("NEW"), api.ErrType}, {d, pgm("APP", "RUN"), file("NOWHERE", "NEW"), api.ErrType}, {d, pgm("APP", "RUN"), file("APP", "PAY"), api.ErrType}, {full, pgm("APP", "RUN"), file("APP", "NEW"), api.ErrType}, {last, file("APP", "PAY"), pgm("APP", "NEW"), api.ErrType},
		{d, pgm("APP", "RUN"), pgm("NOWHERE", "NEW"), api.ErrMissing}, {full, pgm("APP", "RUN"), pgm("RUN", "RUN"), api.ErrMissing}, {last, pgm("APP", "RUN"), pgm("QSYS2", "RUN"), api.ErrMissing},
		{d, pgm("APP", "RUN"), pgm("APP", "RUN"), api.ErrExists}, {d, pgm("APP", "RUN"), pgm("TEST", "RUN"), api.ErrExists}, {full, pgm("APP", "RUN"), pgm("APP", "PAY"), api.ErrExists}, {last, file("APP", "PAY"), file("TEST", "PAY"), api.ErrExists},
		{full, pgm("APP", "RUN"), pgm("APP", "NEW"), api.ErrFull}, {last, pgm("APP", "RUN"), pgm("APP", "NEW"), api.ErrFull}, {directory(math.MaxInt, full.Objects...), pgm("APP", "RUN"), pgm("APP", "NEW"), api.ErrRange},
	} {
		got, e := library.Duplicate(x.d, x.n, x.to)
		nothing(t, "Duplicate", got, e, x.e)
	}
}

// everyType is a directory with an object X of each type, the libraries APP and TEST, and segments from 1 on.
func everyType() api.Directory {
	d := directory(33)
	for k := range api.ObjectTypes {
		lib := "APP"
		if slices.Contains([]int{api.TypeLibrary, api.TypeUser, api.TypeAuthList, api.TypeDevice, api.TypeLine, api.TypeController}, k) {
			lib = "QSYS"
		}
		d.Objects = append(d.Objects, owned(name(lib, "X", k), k+1))
	}
	d.Objects = append(d.Objects, owned(lib("APP"), 31), owned(lib("TEST"), 32))
	slices.SortFunc(d.Objects, func(a, b api.Object) int { return inOrder(a.Name, b.Name) })
	return d
}

// P9.4: each type is moved and duplicated if, and only if, chapter 8 permits it.
func TestPermitted(t *testing.T) {
	d, moved, copied := everyType(), 0, 0
	for _, o := range d.Objects {
		permitted, _ := object.OperationsOf(o.Name.Type)
		got, e := library.Move(d, o.Name, "TEST")
		if !slices.Contains(permitted, api.OperationMove) {
			nothing(t, "Move", got, e, api.ErrRefused)
		} else if n := name("TEST", "X", o.Name.Type); e != api.OK || !slices.ContainsFunc(got.Objects, func(x api.Object) bool { return x.Name == n && x.Segment == o.Segment }) {
			t.Errorf("Move of %v: %v, %v", o, got, e)
		} else {
			moved++
		}
		to := name("QSYS", "Y", o.Name.Type)
		got, e = library.Duplicate(d, o.Name, to)
		if !slices.Contains(permitted, api.OperationCopy) {
			nothing(t, "Duplicate", got, e, api.ErrRefused)
		} else if at, f := object.Find(got, to); e != api.OK || f != api.OK || got.Objects[at].Segment != 33 {
			t.Errorf("Duplicate of %v: %v, %v", o, got, e)
		} else {
			copied++
		}
	}
	if moved != 21 || copied != 17 {
		t.Errorf("%d types are moved, %d duplicated", moved, copied)
	}
}
