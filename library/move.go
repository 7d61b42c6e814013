package library

import (
	"cmp"
	"slices"
	"strings"

	"midrange/api"
	"midrange/object"
)

// findFor returns the index of the object with a name if its type permits an operation.
func findFor(d api.Directory, n api.ObjectName, operation int) (int, api.Errno) {
	i, e := object.Find(d, n)
	if e != api.OK {
		return 0, e
	}
	permitted, _ := object.OperationsOf(n.Type)
	if !slices.Contains(permitted, operation) {
		return 0, api.ErrRefused
	}
	return i, api.OK
}

// Move returns the directory in which an object is in another library. The object keeps its segment, so that what was resolved stays so.
func Move(d api.Directory, n api.ObjectName, library string) (api.Directory, api.Errno) {
	i, e := findFor(d, n, api.OperationMove)
	if e != api.OK {
		return api.Directory{}, e
	}
	if e := checkLibrary(d, library); e != api.OK {
		return api.Directory{}, e
	}
	moved := n
	moved.Library = library
	if _, e := object.Find(d, moved); e == api.OK {
		return api.Directory{}, api.ErrExists
	}
	l := slices.Clone(d.Objects)
	l[i].Name = moved
	slices.SortFunc(l, inOrder)
	return api.Directory{Objects: l, Next: d.Next}, api.OK
}

// inOrder compares objects as a directory orders them (chapter 8).
func inOrder(a, b api.Object) int {
	return cmp.Or(strings.Compare(a.Name.Library, b.Name.Library), strings.Compare(a.Name.Name, b.Name.Name), cmp.Compare(a.Name.Type, b.Name.Type))
}

// Duplicate returns the directory with a further object, which has all of an object but its name and its segment.
func Duplicate(d api.Directory, n, to api.ObjectName) (api.Directory, api.Errno) {
	i, e := findFor(d, n, api.OperationCopy)
	if e != api.OK {
		return api.Directory{}, e
	}
	if e := object.CheckName(to); e != api.OK {
		return api.Directory{}, e
	}
	if to.Type != n.Type {
		return api.Directory{}, api.ErrType
	}
	o := d.Objects[i]
	o.Name, o.Segment = to, 0
	return object.Create(d, o)
}
