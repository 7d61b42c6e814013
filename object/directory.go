package object

import (
	"slices"

	"midrange/api"
)

// CheckDirectory returns the number of objects of a valid directory. Beside the error of an object it returns the index of the object.
func CheckDirectory(d api.Directory) (int, api.Errno) {
	if len(d.Objects) > api.MaxObjects {
		return 0, api.ErrLarge
	}
	if d.Next < 1 || d.Next > api.MaxObjectSegments+1 {
		return 0, api.ErrRange
	}
	for i := range d.Objects {
		if e := checkEntry(d, i); e != api.OK {
			return i, e
		}
	}
	return len(d.Objects), api.OK
}

// checkEntry returns the error of an object of a directory.
func checkEntry(d api.Directory, i int) api.Errno {
	o, earlier := d.Objects[i], d.Objects[:i]
	if e := CheckObject(o); e != api.OK {
		return e
	}
	if o.Segment < 1 || o.Segment >= d.Next {
		return api.ErrRange
	}
	if i > 0 && compare(earlier[i-1].Name, o.Name) >= 0 {
		return api.ErrOrder
	}
	if indexOfSegment(earlier, o.Segment) != api.None {
		return api.ErrDouble
	}
	if !hasLibrary(d, o.Name.Library) {
		return api.ErrMissing
	}
	return api.OK
}

// hasLibrary says whether a library exists.
func hasLibrary(d api.Directory, library string) bool {
	return library == systemLibrary || slices.ContainsFunc(d.Objects, func(o api.Object) bool {
		return o.Name.Type == api.TypeLibrary && o.Name.Name == library
	})
}

// isEmpty says whether no object is in a library.
func isEmpty(d api.Directory, library string) bool {
	return !slices.ContainsFunc(d.Objects, func(o api.Object) bool { return o.Name.Library == library })
}

// indexOf returns the index of the object with a name, or None.
func indexOf(l []api.Object, n api.ObjectName) int {
	return slices.IndexFunc(l, func(o api.Object) bool { return o.Name == n })
}

// indexOfSegment returns the index of the object with a segment, or None.
func indexOfSegment(l []api.Object, segment int) int {
	return slices.IndexFunc(l, func(o api.Object) bool { return o.Segment == segment })
}

// Find returns the index of the object with a name.
func Find(d api.Directory, n api.ObjectName) (int, api.Errno) {
	if _, e := CheckDirectory(d); e != api.OK {
		return 0, e
	}
	if e := CheckName(n); e != api.OK {
		return 0, e
	}
	return found(indexOf(d.Objects, n))
}

// FindSegment returns the index of the object with a segment.
func FindSegment(d api.Directory, segment int) (int, api.Errno) {
	if _, e := CheckDirectory(d); e != api.OK {
		return 0, e
	}
	return found(indexOfSegment(d.Objects, segment))
}

// found returns an index, or the error if it is None.
func found(i int) (int, api.Errno) {
	if i == api.None {
		return 0, api.ErrMissing
	}
	return i, api.OK
}

// findFor returns the index of the object with a name if its type permits an operation.
func findFor(d api.Directory, n api.ObjectName, operation int) (int, api.Errno) {
	i, e := Find(d, n)
	if e != api.OK {
		return 0, e
	}
	if !permits(n.Type, operation) {
		return 0, api.ErrRefused
	}
	return i, api.OK
}
