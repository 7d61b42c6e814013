package library

import (
	"strings"

	"midrange/api"
	"midrange/object"
)

// isType leaves it to package object what types there are.
func isType(t int) bool {
	_, e := object.TypeName(t)
	return e == api.OK
}

// Resolve returns the segment of the first object with a name and a type in the libraries for the name.
func Resolve(d api.Directory, l api.LibraryList, r api.Resolution) (int, api.Errno) {
	libraries, e := LibrariesFor(d, l, r.Name)
	if e != api.OK {
		return 0, e
	}
	if r.Name.Generic {
		return 0, api.ErrForm
	}
	if !isType(r.Type) {
		return 0, api.ErrKind
	}
	found := search(d, libraries, r)
	if len(found) == 0 {
		return 0, api.ErrMissing
	}
	return found[0].Segment, api.OK
}

// Matching returns the names of all objects that match a request, in the order of the search.
func Matching(d api.Directory, l api.LibraryList, r api.Resolution) ([]api.ObjectName, api.Errno) {
	libraries, e := LibrariesFor(d, l, r.Name)
	if e != api.OK {
		return nil, e
	}
	if r.Type != api.None && !isType(r.Type) {
		return nil, api.ErrKind
	}
	var names []api.ObjectName
	for _, o := range search(d, libraries, r) {
		names = append(names, o.Name)
	}
	return names, api.OK
}

// search returns the objects of libraries that match a request, library by library.
func search(d api.Directory, libraries []string, r api.Resolution) []api.Object {
	var found []api.Object
	for _, library := range libraries {
		for _, o := range d.Objects {
			if o.Name.Library == library && matches(o.Name, r) {
				found = append(found, o)
			}
		}
	}
	return found
}

// matches says whether an object of the right library is meant by a request.
func matches(n api.ObjectName, r api.Resolution) bool {
	if r.Type != api.None && n.Type != r.Type {
		return false
	}
	if r.Name.Generic {
		return strings.HasPrefix(n.Name, r.Name.Name)
	}
	return n.Name == r.Name.Name
}
