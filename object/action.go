package object

import (
	"slices"

	"midrange/api"
)

// Create returns the directory with a further object, which has the next segment.
func Create(d api.Directory, o api.Object) (api.Directory, api.Errno) {
	if _, e := CheckDirectory(d); e != api.OK {
		return api.Directory{}, e
	}
	if e := checkNew(d, o); e != api.OK {
		return api.Directory{}, e
	}
	o.Segment = d.Next
	return ordered(append(slices.Clone(d.Objects), o), d.Next+1), api.OK
}

// checkNew returns the error of an object that is to be created.
func checkNew(d api.Directory, o api.Object) api.Errno {
	if e := CheckObject(o); e != api.OK {
		return e
	}
	if o.Segment != 0 {
		return api.ErrForm
	}
	if !hasLibrary(d, o.Name.Library) {
		return api.ErrMissing
	}
	if indexOf(d.Objects, o.Name) != api.None {
		return api.ErrExists
	}
	if len(d.Objects) == api.MaxObjects || d.Next > api.MaxObjectSegments {
		return api.ErrFull
	}
	return api.OK
}

// ordered returns the directory of objects, which it puts in order.
func ordered(l []api.Object, next int) api.Directory {
	slices.SortFunc(l, func(a, b api.Object) int { return compare(a.Name, b.Name) })
	return api.Directory{Objects: l, Next: next}
}

// Destroy returns the directory without an object. Next stays, so that its segment is not used again.
func Destroy(d api.Directory, n api.ObjectName) (api.Directory, api.Errno) {
	i, e := Find(d, n)
	if e != api.OK {
		return api.Directory{}, e
	}
	if n.Type == api.TypeLibrary && !isEmpty(d, n.Name) {
		return api.Directory{}, api.ErrState
	}
	return api.Directory{Objects: slices.Concat(d.Objects[:i], d.Objects[i+1:]), Next: d.Next}, api.OK
}

// Rename returns the directory in which an object has another name. A library takes its objects with it.
func Rename(d api.Directory, n api.ObjectName, name string) (api.Directory, api.Errno) {
	i, e := findFor(d, n, api.OperationRename)
	if e != api.OK {
		return api.Directory{}, e
	}
	renamed := n
	renamed.Name = name
	if e := CheckName(renamed); e != api.OK {
		return api.Directory{}, e
	}
	if indexOf(d.Objects, renamed) != api.None {
		return api.Directory{}, api.ErrExists
	}
	l := slices.Clone(d.Objects)
	l[i].Name = renamed
	if n.Type == api.TypeLibrary {
		takeAlong(l, n.Name, name)
	}
	return ordered(l, d.Next), api.OK
}

// takeAlong puts the objects of a library into another one.
func takeAlong(l []api.Object, from, to string) {
	for i := range l {
		if l[i].Name.Library == from {
			l[i].Name.Library = to
		}
	}
}

// Change returns the directory in which an object has another content.
func Change(d api.Directory, n api.ObjectName, content string) (api.Directory, api.Errno) {
	i, e := findFor(d, n, api.OperationChange)
	if e != api.OK {
		return api.Directory{}, e
	}
	if !isContent(content) {
		return api.Directory{}, api.ErrLarge
	}
	return withContent(d, i, content), api.OK
}

// Clear returns the directory in which the content of an object is empty.
func Clear(d api.Directory, n api.ObjectName) (api.Directory, api.Errno) {
	i, e := findFor(d, n, api.OperationClear)
	if e != api.OK {
		return api.Directory{}, e
	}
	return withContent(d, i, ""), api.OK
}

// withContent returns a directory of its own memory in which the object with an index has another content.
func withContent(d api.Directory, i int, content string) api.Directory {
	l := slices.Clone(d.Objects)
	l[i].Content = content
	return api.Directory{Objects: l, Next: d.Next}
}

// ContentOf returns the content of an object.
func ContentOf(d api.Directory, n api.ObjectName) (string, api.Errno) {
	i, e := findFor(d, n, api.OperationRead)
	if e != api.OK {
		return "", e
	}
	return d.Objects[i].Content, api.OK
}

// Perform returns the directory after an action.
func Perform(d api.Directory, a api.ObjectAction) (api.Directory, api.Errno) {
	// The error of the directory comes before that of the kind.
	if _, e := CheckDirectory(d); e != api.OK {
		return api.Directory{}, e
	}
	n := a.Object.Name
	switch a.Kind {
	case api.ActionCreate:
		return Create(d, a.Object)
	case api.ActionDestroy:
		return Destroy(d, n)
	case api.ActionRename:
		return Rename(d, n, a.Name)
	case api.ActionChange:
		return Change(d, n, a.Object.Content)
	case api.ActionClear:
		return Clear(d, n)
	}
	return api.Directory{}, api.ErrKind
}
