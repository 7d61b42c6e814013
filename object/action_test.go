package object_test

import (
	"math"
	"slices"
	"strings"
	"testing"

	"midrange/api"
	"midrange/object"
)

// everyType is a directory with an object X of each type, and the library APP; the segment of an object is its type plus 1.
func everyType() api.Directory {
	d := directory(32)
	for i, x := range rows {
		library := "APP"
		if slices.Contains(systemTypes, x.name) {
			library = "QSYS"
		}
		d.Objects = append(d.Objects, owned(name(library, "X", i), i+1))
	}
	slices.SortStableFunc(d.Objects, func(a, b api.Object) int { return strings.Compare(a.Name.Library, b.Name.Library) })
	d.Objects = slices.Insert(d.Objects, 24, owned(lib("APP"), 31))
	return d
}

// expect compares the result of a call, which has no part in the argument.
func expect(t *testing.T, call string, before, got api.Directory, e api.Errno, want api.Directory) {
	t.Helper()
	if !same(got, want) || e != api.OK {
		t.Errorf("%s: %v, %v, not %v", call, got, e, want)
	}
	kept := copyOf(before)
	for i := range got.Objects {
		got.Objects[i].Name.Name = "changed"
	}
	if !same(kept, before) {
		t.Errorf("%s shares memory with its argument", call)
	}
}

// with returns the directory with other objects at an index.
func with(d api.Directory, at, gone int, l ...api.Object) api.Directory {
	return api.Directory{Objects: slices.Replace(slices.Clone(d.Objects), at, at+gone, l...), Next: d.Next}
}

// P8.5: objects that are created, at their places.
func TestCreate(t *testing.T) {
	for _, x := range []struct {
		d  api.Directory
		n  api.ObjectName
		at int
	}{
		{directory(1), lib("APP"), 0}, {directory(9999), file("QSYS", "DATA"), 0}, {directory(500), name("QSYS", "QSYS", api.TypeUser), 0}, {app(), pgm("APP", "A"), 0}, {app(), name("APP", "RUN", api.TypeServiceProg), 1}, {app(), pgm("APP", "RUN1"), 2}, {app(), file("APP", "ZZ"), 2},
		{app(), pgm("QSYS", "APP"), 3}, {app(), lib("APP2"), 4}, {app(), name("QSYS", "APP", api.TypeAuthList), 4}, {app(), file("QSYS", "ZOO"), 5}, {app(), lib("#"), 2}, {app(), pgm("ZOO", "A"), 5}, {app(), pgm("ZOO", "RUN"), 5}, {files(39), file("QSYS", "Z"), 39}, {files(39), file("QSYS", "A"), 0}, {files(39), file("QSYS", "F20_"), 21}, {directory(9999, files(39).Objects...), file("QSYS", "Z"), 39},
	} {
		for _, o := range []api.Object{owned(x.n, 0), {Name: x.n, Owner: "$"}, {Name: x.n, Owner: "OWNEROWNER", Text: strings.Repeat("~", 50), Content: strings.Repeat("\x00", 120)}} {
			made := o
			made.Segment = x.d.Next
			want := with(x.d, x.at, 0, made)
			want.Next++
			got, e := object.Create(x.d, o)
			expect(t, "Create of "+x.n.Name, x.d, got, e, want)
		}
	}
}

// P8.5: objects that cannot be created.
func TestNotCreated(t *testing.T) {
	long := owned(pgm("APP", "NEW"), 0)
	long.Content = strings.Repeat("x", 121)
	poor := owned(pgm("APP", "NEW"), 1)
	poor.Owner = ""
	full, last := files(40), directory(10000, app().Objects...)
	for _, x := range []struct {
		d api.Directory
		o api.Object
		e api.Errno
	}{
		{app(), api.Object{}, api.ErrName}, {app(), owned(name("APP", "NEW", 30), 1), api.ErrKind}, {app(), owned(lib("QSYS"), 0), api.ErrClash}, {app(), owned(name("APP", "NEW", api.TypeLine), 1), api.ErrClash}, {app(), long, api.ErrLarge}, {app(), poor, api.ErrName}, {full, poor, api.ErrName}, {last, long, api.ErrLarge},
		{app(), owned(pgm("APP", "NEW"), 1), api.ErrForm}, {app(), owned(pgm("APP", "NEW"), 8), api.ErrForm}, {app(), owned(pgm("APP", "NEW"), -1), api.ErrForm}, {app(), owned(pgm("APP", "NEW"), 2), api.ErrForm}, {app(), owned(pgm("NOWHERE", "NEW"), 8), api.ErrForm}, {app(), owned(pgm("APP", "RUN"), 6), api.ErrForm}, {full, owned(pgm("APP", "NEW"), math.MaxInt), api.ErrForm}, {last, owned(pgm("APP", "NEW"), math.MinInt), api.ErrForm},
		{app(), owned(pgm("NOWHERE", "NEW"), 0), api.ErrMissing}, {app(), owned(pgm("RUN", "NEW"), 0), api.ErrMissing}, {directory(1), owned(pgm("APP", "RUN"), 0), api.ErrMissing}, {full, owned(pgm("APP", "NEW"), 0), api.ErrMissing}, {last, owned(pgm("NOWHERE", "NEW"), 0), api.ErrMissing}, {directory(3, owned(name("QSYS", "APP", api.TypeUser), 1)), owned(pgm("APP", "NEW"), 0), api.ErrMissing},
		{app(), owned(pgm("APP", "RUN"), 0), api.ErrExists}, {app(), owned(lib("ZOO"), 0), api.ErrExists}, {app(), owned(name("QSYS", "APP", api.TypeUser), 0), api.ErrExists}, {full, owned(file("QSYS", "F00"), 0), api.ErrExists}, {last, owned(file("APP", "RUN"), 0), api.ErrExists},
		{full, owned(file("QSYS", "F40"), 0), api.ErrFull}, {full, owned(lib("APP"), 0), api.ErrFull}, {last, owned(pgm("APP", "NEW"), 0), api.ErrFull}, {directory(10000), owned(lib("APP"), 0), api.ErrFull}, {directory(10000, full.Objects...), owned(lib("APP"), 0), api.ErrFull}, {directory(10000, files(39).Objects...), owned(lib("APP"), 0), api.ErrFull}, {directory(9999, full.Objects...), owned(lib("APP"), 0), api.ErrFull},
	} {
		d, e := object.Create(x.d, x.o)
		nothing(t, "Create", d, e, x.e)
	}
}

// P8.5: objects that are destroyed; each type permits it.
func TestDestroy(t *testing.T) {
	for _, d := range []api.Directory{app(), everyType(), files(40), directory(10000, owned(lib("APP"), 9999))} {
		for i, o := range d.Objects {
			got, e := object.Destroy(d, o.Name)
			if o.Name == lib("APP") && len(d.Objects) > 1 {
				nothing(t, "Destroy of APP", got, e, api.ErrState)
				continue
			}
			expect(t, "Destroy", d, got, e, with(d, i, 1))
		}
	}
	// A user profile with the name of a library is not the library.
	d := app()
	got, e := object.Destroy(d, name("QSYS", "APP", api.TypeUser))
	expect(t, "Destroy of the profile APP", d, got, e, with(d, 3, 1))
}

// P8.6: objects that are renamed, at their new places.
func TestRename(t *testing.T) {
	for _, x := range []struct {
		n    api.ObjectName
		name string
		want []api.Object
	}{
		{pgm("APP", "RUN"), "A", []api.Object{owned(pgm("APP", "A"), 6), owned(file("APP", "RUN"), 3), owned(lib("APP"), 1), owned(name("QSYS", "APP", api.TypeUser), 7), owned(lib("ZOO"), 4)}},
		{pgm("APP", "RUN"), "RUN2", []api.Object{owned(file("APP", "RUN"), 3), owned(pgm("APP", "RUN2"), 6), owned(lib("APP"), 1), owned(name("QSYS", "APP", api.TypeUser), 7), owned(lib("ZOO"), 4)}},
		{pgm("APP", "RUN"), "QSYS", []api.Object{owned(pgm("APP", "QSYS"), 6), owned(file("APP", "RUN"), 3), owned(lib("APP"), 1), owned(name("QSYS", "APP", api.TypeUser), 7), owned(lib("ZOO"), 4)}},
		{file("APP", "RUN"), "ABCDEFGHIJ", []api.Object{owned(file("APP", "ABCDEFGHIJ"), 3), owned(pgm("APP", "RUN"), 6), owned(lib("APP"), 1), owned(name("QSYS", "APP", api.TypeUser), 7), owned(lib("ZOO"), 4)}},
		{lib("APP"), "NEW", []api.Object{owned(pgm("NEW", "RUN"), 6), owned(file("NEW", "RUN"), 3), owned(name("QSYS", "APP", api.TypeUser), 7), owned(lib("NEW"), 1), owned(lib("ZOO"), 4)}},
		{lib("APP"), "Z", []api.Object{owned(name("QSYS", "APP", api.TypeUser), 7), owned(lib("Z"), 1), owned(lib("ZOO"), 4), owned(pgm("Z", "RUN"), 6), owned(file("Z", "RUN"), 3)}},
		{lib("APP"), "QSYS2", []api.Object{owned(name("QSYS", "APP", api.TypeUser), 7), owned(lib("QSYS2"), 1), owned(lib("ZOO"), 4), owned(pgm("QSYS2", "RUN"), 6), owned(file("QSYS2", "RUN"), 3)}},
		{lib("ZOO"), "A", []api.Object{owned(pgm("APP", "RUN"), 6), owned(file("APP", "RUN"), 3), owned(lib("A"), 4), owned(lib("APP"), 1), owned(name("QSYS", "APP", api.TypeUser), 7)}},
		{lib("ZOO"), "RUN", []api.Object{owned(pgm("APP", "RUN"), 6), owned(file("APP", "RUN"), 3), owned(lib("APP"), 1), owned(name("QSYS", "APP", api.TypeUser), 7), owned(lib("RUN"), 4)}},
	} {
		d := app()
		got, e := object.Rename(d, x.n, x.name)
		expect(t, "Rename to "+x.name, d, got, e, directory(8, x.want...))
	}
	// Only a library takes the objects of the library with its name.
	d := directory(4, owned(pgm("A", "A"), 1), owned(lib("A"), 2), owned(name("QSYS", "A", api.TypeDevice), 3))
	for _, i := range []int{0, 2} {
		o := d.Objects[i]
		o.Name.Name = "B"
		got, e := object.Rename(d, d.Objects[i].Name, "B")
		expect(t, "Rename of A", d, got, e, with(d, i, 1, o))
	}
}

// P8.6: objects that cannot be renamed.
func TestNotRenamed(t *testing.T) {
	for _, x := range []struct {
		d    api.Directory
		n    api.ObjectName
		name string
		e    api.Errno
	}{
		{app(), name("QSYS", "APP", api.TypeUser), "NEW", api.ErrRefused}, {app(), name("QSYS", "APP", api.TypeUser), "", api.ErrRefused}, {app(), name("QSYS", "APP", api.TypeUser), "APP", api.ErrRefused}, {everyType(), name("APP", "X", api.TypeJournal), "x", api.ErrRefused}, {everyType(), name("APP", "X", api.TypeEdit), "X", api.ErrRefused},
		{app(), pgm("APP", "RUN"), "", api.ErrName}, {app(), pgm("APP", "RUN"), "run", api.ErrName}, {app(), pgm("APP", "RUN"), "ABCDEFGHIJK", api.ErrName}, {app(), lib("APP"), "*LIBL", api.ErrName}, {app(), lib("ZOO"), "0", api.ErrName}, {app(), lib("APP"), "QSYS", api.ErrClash}, {app(), lib("ZOO"), "QSYS", api.ErrClash},
		{app(), pgm("APP", "RUN"), "RUN", api.ErrExists}, {app(), lib("APP"), "APP", api.ErrExists}, {app(), lib("APP"), "ZOO", api.ErrExists}, {app(), lib("ZOO"), "APP", api.ErrExists}, {everyType(), name("QSYS", "X", api.TypeDevice), "X", api.ErrExists},
		{directory(5, owned(pgm("APP", "A"), 1), owned(pgm("APP", "B"), 2), owned(lib("APP"), 3)), pgm("APP", "A"), "B", api.ErrExists}, {directory(5, owned(pgm("APP", "A"), 1), owned(pgm("APP", "B"), 2), owned(lib("APP"), 3)), pgm("APP", "B"), "A", api.ErrExists},
	} {
		d, e := object.Rename(x.d, x.n, x.name)
		nothing(t, "Rename", d, e, x.e)
	}
}

// P8.6, P8.10: what each type permits to do to its content and its name.
func TestPermitted(t *testing.T) {
	d := everyType()
	for i, o := range d.Objects {
		if o.Name.Name != "X" {
			continue
		}
		o.Content = ""
		got, e := object.Clear(d, o.Name)
		permittedOnly(t, d, o.Name, "clear", got, e, with(d, i, 1, o))
		o.Content = "other"
		got, e = object.Change(d, o.Name, "other")
		permittedOnly(t, d, o.Name, "change", got, e, with(d, i, 1, o))
		_, e = object.Rename(d, o.Name, "Y")
		if want := permitted(o.Name.Type, "rename"); want != (e == api.OK) || !want && e != api.ErrRefused {
			t.Errorf("rename of %v: %v", o.Name, e)
		}
		s, e := object.ContentOf(d, o.Name)
		if read := permitted(o.Name.Type, "read"); read && (s != "content" || e != api.OK) || !read && (s != "" || e != api.ErrRefused) {
			t.Errorf("ContentOf of %v: %q, %v", o.Name, s, e)
		}
	}
}

// permittedOnly compares the result of an operation that a type may not permit.
func permittedOnly(t *testing.T, d api.Directory, n api.ObjectName, operation string, got api.Directory, e api.Errno, want api.Directory) {
	t.Helper()
	if permitted(n.Type, operation) {
		expect(t, operation, d, got, e, want)
	} else {
		nothing(t, operation, got, e, api.ErrRefused)
	}
}

// P8.6: contents of all lengths, and of all bytes.
func TestContents(t *testing.T) {
	d := app()
	for n := range 140 {
		content := make([]byte, n)
		for i := range content {
			content[i] = byte(i*37 + n)
		}
		got, e := object.Change(d, file("APP", "RUN"), string(content))
		if n > 120 {
			nothing(t, "Change", got, e, api.ErrLarge)
			continue
		}
		o := d.Objects[1]
		o.Content = string(content)
		if s, e := object.ContentOf(got, o.Name); s != string(content) || e != api.OK {
			t.Errorf("ContentOf: %q, %v, not %q", s, e, content)
		}
		expect(t, "Change", d, got, e, with(d, 1, 1, o))
	}
	for _, n := range []api.ObjectName{pgm("APP", "RUN"), lib("APP")} {
		got, e := object.Change(d, n, strings.Repeat("x", 121))
		nothing(t, "Change", got, e, api.ErrRefused)
	}
	got, e := object.Change(d, file("APP", "RUN"), strings.Repeat("x", 100000))
	nothing(t, "Change", got, e, api.ErrLarge)
}

// P8.7: each kind of action does what its function does, and uses what the function does alone.
func TestPerform(t *testing.T) {
	spare := owned(file("APP", "RUN"), 77)
	spare.Owner, spare.Text = "", "\n"
	action := func(kind int, n api.ObjectName, content string) api.ObjectAction {
		o := spare
		o.Name, o.Content = n, content
		return api.ObjectAction{Kind: kind, Object: o, Name: "NEW"}
	}
	long := strings.Repeat("x", 121)
	data := file("APP", "RUN")
	for _, n := range []api.ObjectName{data, pgm("APP", "RUN"), lib("APP"), lib("ZOO"), name("QSYS", "APP", api.TypeUser), lib("QSYS"), pgm("APP", "NONE"), name("APP", "RUN", 30), {}} {
		d := app()
		got, e := object.Perform(d, action(api.ActionDestroy, n, long))
		want, f := object.Destroy(d, n)
		alike(t, "ActionDestroy", got, e, want, f)
		got, e = object.Perform(d, action(api.ActionRename, n, long))
		want, f = object.Rename(d, n, "NEW")
		alike(t, "ActionRename", got, e, want, f)
		got, e = object.Perform(d, action(api.ActionClear, n, long))
		want, f = object.Clear(d, n)
		alike(t, "ActionClear", got, e, want, f)
		for _, content := range []string{"", "other", long} {
			got, e = object.Perform(d, action(api.ActionChange, n, content))
			want, f = object.Change(d, n, content)
			alike(t, "ActionChange", got, e, want, f)
		}
	}
	for _, o := range []api.Object{owned(lib("NEW"), 0), owned(lib("NEW"), 1), owned(lib("APP"), 0), spare, {}} {
		d := app()
		got, e := object.Perform(d, api.ObjectAction{Kind: api.ActionCreate, Object: o, Name: "no name"})
		want, f := object.Create(d, o)
		alike(t, "ActionCreate", got, e, want, f)
	}
	for _, kind := range []int{-1, api.ActionKinds, api.ActionKinds + 1, math.MinInt, math.MaxInt} {
		for _, n := range []api.ObjectName{data, {}, name("", "", 30)} {
			d, e := object.Perform(app(), action(kind, n, long))
			nothing(t, "Perform", d, e, api.ErrKind)
		}
	}
}

func alike(t *testing.T, call string, got api.Directory, e api.Errno, want api.Directory, f api.Errno) {
	t.Helper()
	if !same(got, want) || e != f {
		t.Errorf("%s: %v, %v, not %v, %v", call, got, e, want, f)
	}
}

// Examples 1 to 3, and the edge cases.
func TestExamples(t *testing.T) {
	d, e := object.Create(directory(1), owned(lib("APP"), 0))
	alike(t, "Create of APP", d, e, directory(2, owned(lib("APP"), 1)), api.OK)
	d, e = object.Create(d, owned(pgm("APP", "RUN"), 0))
	alike(t, "Create of APP/RUN", d, e, directory(3, owned(pgm("APP", "RUN"), 2), owned(lib("APP"), 1)), api.OK)
	none, e := object.Destroy(d, lib("APP"))
	nothing(t, "Destroy of APP", none, e, api.ErrState)
	none, e = object.Rename(d, lib("APP"), "APP")
	nothing(t, "Rename to its own name", none, e, api.ErrExists)
	none, e = object.Destroy(d, lib("QSYS"))
	nothing(t, "Destroy of QSYS", none, e, api.ErrClash)
	none, e = object.Change(d, pgm("APP", "RUN"), "other")
	nothing(t, "Change of a program", none, e, api.ErrRefused)
	d, e = object.Rename(d, lib("APP"), "NEW")
	alike(t, "Rename to NEW", d, e, directory(3, owned(pgm("NEW", "RUN"), 2), owned(lib("NEW"), 1)), api.OK)
	l, e := object.OperationsOf(api.TypeEdit)
	if want := []int{api.OperationDestroy, api.OperationRead, api.OperationSave}; !slices.Equal(l, want) || e != api.OK {
		t.Errorf("OperationsOf(*EDTD): %v, %v", l, e)
	}
}
