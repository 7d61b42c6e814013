package library

import (
	"slices"

	"midrange/api"
	"midrange/object"
)

// CheckList returns the number of entries of both parts of a valid library list. Beside an error it returns the index of the entry, that of the current library behind all others.
func CheckList(d api.Directory, l api.LibraryList) (int, api.Errno) {
	if _, e := object.CheckDirectory(d); e != api.OK {
		return 0, e
	}
	if len(l.System) > api.MaxSystemLibraries || len(l.User) > api.MaxUserLibraries {
		return 0, api.ErrLarge
	}
	entries := slices.Concat(l.System, l.User)
	for i, library := range entries {
		if e := checkLibrary(d, library); e != api.OK {
			return i, e
		}
		if slices.Contains(entries[:i], library) {
			return i, api.ErrDouble
		}
	}
	return len(entries), checkCurrent(d, l.Current)
}

// checkCurrent returns the error of a current library, which may be none.
func checkCurrent(d api.Directory, library string) api.Errno {
	if library == "" {
		return api.OK
	}
	return checkLibrary(d, library)
}

// LibrariesFor returns the libraries for a qualified name, in the order in which they are searched.
func LibrariesFor(d api.Directory, l api.LibraryList, q api.QualifiedName) ([]string, api.Errno) {
	if _, e := CheckList(d, l); e != api.OK {
		return nil, e
	}
	if _, e := FormatName(q); e != api.OK {
		return nil, e
	}
	switch q.Library {
	case "", api.LibraryListed:
		return searched(l), api.OK
	case api.LibraryUser:
		return slices.Clone(l.User), api.OK
	case api.LibraryCurrent:
		if l.Current == "" {
			return nil, api.ErrNone
		}
		return []string{l.Current}, api.OK
	}
	if e := checkLibrary(d, q.Library); e != api.OK {
		return nil, e
	}
	return []string{q.Library}, api.OK
}

// searched returns the libraries of a whole list, each one only where it occurs first.
func searched(l api.LibraryList) []string {
	all := slices.Clone(l.System)
	if l.Current != "" && !slices.Contains(all, l.Current) {
		all = append(all, l.Current)
	}
	for _, library := range l.User {
		if library != l.Current {
			all = append(all, library)
		}
	}
	return all
}

// AddEntry returns the list with a further entry in its user part.
func AddEntry(d api.Directory, l api.LibraryList, e api.ListEntry) (api.LibraryList, api.Errno) {
	if _, f := CheckList(d, l); f != api.OK {
		return api.LibraryList{}, f
	}
	if f := checkEntry(d, l, e); f != api.OK {
		return api.LibraryList{}, f
	}
	rest, at := roomFor(l.User, e)
	if slices.Contains(l.System, e.Library) || slices.Contains(rest, e.Library) {
		return api.LibraryList{}, api.ErrDouble
	}
	if len(rest) == api.MaxUserLibraries {
		return api.LibraryList{}, api.ErrFull
	}
	return withUser(l, slices.Insert(rest, at, e.Library)), api.OK
}

// checkEntry returns the error of the library, the position and the reference of an entry.
func checkEntry(d api.Directory, l api.LibraryList, e api.ListEntry) api.Errno {
	if f := checkLibrary(d, e.Library); f != api.OK {
		return f
	}
	if e.Position < 0 || e.Position >= api.PositionKinds {
		return api.ErrKind
	}
	if refers(e.Position) != (e.Reference != "") {
		return api.ErrForm
	}
	if refers(e.Position) && !slices.Contains(l.User, e.Reference) {
		return api.ErrNone
	}
	return api.OK
}

// refers says whether a position is one beside, or of, another entry.
func refers(position int) bool {
	switch position {
	case api.PositionAfter, api.PositionBefore, api.PositionReplace:
		return true
	}
	return false
}

// roomFor returns a copy of the user part, without the entry that is replaced, and the index in it at which a right entry belongs.
func roomFor(user []string, e api.ListEntry) ([]string, int) {
	rest, at := slices.Clone(user), slices.Index(user, e.Reference)
	switch e.Position {
	case api.PositionFirst:
		at = 0
	case api.PositionLast:
		at = len(rest)
	case api.PositionAfter:
		at++
	case api.PositionReplace:
		rest = slices.Delete(rest, at, at+1)
	}
	return rest, at
}

// withUser returns the list with another user part, which it keeps.
func withUser(l api.LibraryList, user []string) api.LibraryList {
	return api.LibraryList{System: slices.Clone(l.System), Current: l.Current, User: user}
}

// RemoveEntry returns the list without an entry of its user part.
func RemoveEntry(d api.Directory, l api.LibraryList, library string) (api.LibraryList, api.Errno) {
	if _, e := CheckList(d, l); e != api.OK {
		return api.LibraryList{}, e
	}
	i := slices.Index(l.User, library)
	if i == api.None {
		return api.LibraryList{}, api.ErrNone
	}
	return withUser(l, slices.Concat(l.User[:i], l.User[i+1:])), api.OK
}

// SetCurrent returns the list with another current library, or without one.
func SetCurrent(d api.Directory, l api.LibraryList, library string) (api.LibraryList, api.Errno) {
	if _, e := CheckList(d, l); e != api.OK {
		return api.LibraryList{}, e
	}
	if e := checkCurrent(d, library); e != api.OK {
		return api.LibraryList{}, e
	}
	changed := withUser(l, slices.Clone(l.User))
	changed.Current = library
	return changed, api.OK
}
