package library_test

import (
	"cmp"
	"fmt"
	"maps"
	"slices"
	"strings"
	"testing"

	"midrange/api"
	"midrange/library"
	"midrange/object"
)

// sequence makes numbers that look like random ones, the same in each run.
type sequence struct{ state uint64 }

func (q *sequence) below(n int) int {
	q.state = q.state*6364136223846793005 + 1442695040888963407
	return int(q.state>>33) % n
}

func (q *sequence) oneOf(l ...string) string {
	return l[q.below(len(l))]
}

// seldom is true once in so many times.
func (q *sequence) seldom(n int) bool {
	return q.below(n) == 0
}

// inOrder compares names of objects by texts.
func inOrder(a, b api.ObjectName) int {
	key := func(n api.ObjectName) string { return fmt.Sprintf("%s %s %02d", n.Library, n.Name, n.Type) }
	return strings.Compare(key(a), key(b))
}

// rule is an error, and whether it applies.
type rule struct {
	applies bool
	e       api.Errno
}

// firstOf returns the error that is listed first of those that apply.
func firstOf(l ...rule) api.Errno {
	for _, r := range l {
		if r.applies {
			return r.e
		}
	}
	return api.OK
}

// libraries are all libraries that the walks know, wrong and missing ones, too.
var libraries = []string{"QSYS", "A", "B", "C", "D", "E", "F", "G", "H", "I", "J", "GONE", "a", ""}

// library returns one of them, mostly one that exists in the directory.
func (q *sequence) library(d api.Directory) string {
	if q.seldom(15) {
		return q.oneOf(libraries...)
	}
	l := []string{"QSYS"}
	for _, o := range d.Objects {
		if o.Name.Type == api.TypeLibrary {
			l = append(l, o.Name.Name)
		}
	}
	return q.oneOf(l...)
}

// objectType returns a type, mostly of a few ones.
func (q *sequence) objectType() int {
	if q.seldom(8) {
		return q.below(api.ObjectTypes+3) - 2
	}
	return []int{api.TypeProgram, api.TypeFile, api.TypeDataQueue, api.TypeLibrary}[q.below(4)]
}

// objectName returns a name, mostly a right one.
func (q *sequence) objectName(d api.Directory) api.ObjectName {
	n := name(q.library(d), q.oneOf("A", "AB", "ABC", "B", "B1", "X"), q.objectType())
	if n.Type == api.TypeLibrary && !q.seldom(20) {
		n.Library = "QSYS"
	}
	if q.seldom(40) {
		n.Name = q.oneOf("", "a", "QSYS", "1")
	}
	return n
}

// named returns the name of an object of a directory, or another one.
func (q *sequence) named(d api.Directory) api.ObjectName {
	if len(d.Objects) > 0 && !q.seldom(6) {
		return d.Objects[q.below(len(d.Objects))].Name
	}
	return q.objectName(d)
}

// directory returns a directory with some libraries and objects.
func (q *sequence) directory() api.Directory {
	d := directory(1)
	if q.seldom(6) {
		d.Next = 9970 + q.below(30)
	}
	create := func(n api.ObjectName) {
		o := owned(n, d.Next)
		o.Segment = 0
		if after, e := object.Create(d, o); e == api.OK {
			d = after
		}
	}
	for _, s := range libraries[1:] {
		if !q.seldom(3) {
			create(lib(s))
		}
	}
	for range q.below(60) {
		create(q.objectName(d))
	}
	return d
}

// list returns a library list, mostly a right one.
func (q *sequence) list(d api.Directory) api.LibraryList {
	var l api.LibraryList
	add := func(part []string, others []string) []string {
		s := q.library(d)
		if (slices.Contains(part, s) || slices.Contains(others, s)) && !q.seldom(60) {
			return part
		}
		return append(part, s)
	}
	for range q.below(6) {
		l.System = add(l.System, l.User)
	}
	for range q.below(14) {
		l.User = add(l.User, l.System)
	}
	if !q.seldom(3) {
		l.Current = q.library(d)
	}
	return l
}

// qualified returns a qualified name, mostly a right one.
func (q *sequence) qualified(d api.Directory) api.QualifiedName {
	n := api.QualifiedName{Library: q.oneOf("", "*LIBL", "*LIBL", "*CURLIB", "*USRLIBL"), Name: q.oneOf("A", "AB", "ABC", "B", "X"), Generic: q.seldom(2)}
	if q.seldom(4) {
		n.Library = q.library(d)
	}
	if q.seldom(30) {
		n.Name = q.oneOf("", "a", "A*", "A/B")
	}
	return n
}

// entry returns an entry for a list, mostly a right one.
func (q *sequence) entry(d api.Directory, l api.LibraryList) api.ListEntry {
	e := entry(q.library(d), q.below(api.PositionKinds), "")
	if e.Position >= 2 {
		e.Reference = q.oneOf(append(slices.Clone(l.User), "A")...)
	}
	switch q.below(25) {
	case 0:
		e.Position = q.below(9) - 2
	case 1:
		e.Reference = ""
	case 2:
		e.Reference = q.library(d)
	}
	return e
}

// nameError is a second computation of the error of an object name (chapter 8).
func nameError(n api.ObjectName) api.Errno {
	_, e := object.TypeName(n.Type)
	system := slices.Contains([]int{api.TypeLibrary, api.TypeUser, api.TypeAuthList, api.TypeDevice, api.TypeLine, api.TypeController}, n.Type)
	return firstOf(
		rule{e != api.OK, api.ErrKind}, rule{!namePattern.MatchString(n.Library) || !namePattern.MatchString(n.Name), api.ErrName},
		rule{system && n.Library != "QSYS", api.ErrClash}, rule{n == lib("QSYS"), api.ErrClash},
	)
}

// register is a directory as a second computation sees it: its objects by their names.
type register map[api.ObjectName]api.Object

func registerOf(d api.Directory) register {
	r := register{}
	for _, o := range d.Objects {
		r[o.Name] = o
	}
	return r
}

func (r register) has(n api.ObjectName) bool {
	_, ok := r[n]
	return ok
}

func (r register) directory(next int) api.Directory {
	return directory(next, slices.SortedFunc(maps.Values(r), func(a, b api.Object) int { return inOrder(a.Name, b.Name) })...)
}

// libraryError is the error of a library that must exist.
func (r register) libraryError(s string) api.Errno {
	return firstOf(rule{!namePattern.MatchString(s), api.ErrName}, rule{s != "QSYS" && !r.has(lib(s)), api.ErrMissing})
}

// listError is a second computation of CheckList.
func (r register) listError(l api.LibraryList) (int, api.Errno) {
	if len(l.System) > 5 || len(l.User) > 8 {
		return 0, api.ErrLarge
	}
	seen, n := map[string]bool{}, 0
	for _, part := range [][]string{l.System, l.User} {
		for _, s := range part {
			if e := cmp.Or(r.libraryError(s), firstOf(rule{seen[s], api.ErrDouble})); e != api.OK {
				return n, e
			}
			seen[s] = true
			n++
		}
	}
	if l.Current != "" {
		return n, r.libraryError(l.Current)
	}
	return n, api.OK
}

// ranks says of each library that is searched for a name the how manieth it is: a second computation of LibrariesFor.
func (r register) ranks(l api.LibraryList, q api.QualifiedName) (map[string]int, api.Errno) {
	if _, e := r.listError(l); e != api.OK {
		return nil, e
	}
	if q.Library != "" && !libraryPattern.MatchString(q.Library) || !namePattern.MatchString(q.Name) {
		return nil, api.ErrName
	}
	m := map[string]int{}
	whole := append(append(slices.Clone(l.System), l.Current), l.User...)
	switch q.Library {
	case "*USRLIBL":
		whole = l.User
	case "*CURLIB":
		whole = []string{l.Current}
	case "", "*LIBL":
	default:
		whole = []string{q.Library}
		if e := r.libraryError(q.Library); e != api.OK {
			return nil, e
		}
	}
	if q.Library == "*CURLIB" && l.Current == "" {
		return nil, api.ErrNone
	}
	// From the last one, so that the place where a library occurs first is the one that remains.
	for i, s := range slices.Backward(whole) {
		if s != "" {
			m[s] = i
		}
	}
	return m, api.OK
}

// matching is a second computation of Matching: of all names the ones that match, by the rank of the library.
func (r register) matching(l api.LibraryList, x api.Resolution) ([]api.ObjectName, api.Errno) {
	ranks, e := r.ranks(l, x.Name)
	if e != api.OK {
		return nil, e
	}
	if x.Type < -1 || x.Type >= api.ObjectTypes {
		return nil, api.ErrKind
	}
	var found []api.ObjectName
	for n := range r {
		_, ok := ranks[n.Library]
		named := n.Name == x.Name.Name || x.Name.Generic && len(n.Name) > len(x.Name.Name) && n.Name[:len(x.Name.Name)] == x.Name.Name
		if ok && named && (x.Type == -1 || n.Type == x.Type) {
			found = append(found, n)
		}
	}
	slices.SortFunc(found, func(a, b api.ObjectName) int {
		return cmp.Or(cmp.Compare(ranks[a.Library], ranks[b.Library]), inOrder(a, b))
	})
	return found, api.OK
}

// enough says that each of some errors occurred often.
func enough(t *testing.T, errors map[api.Errno]int, l ...api.Errno) {
	t.Helper()
	for _, e := range l {
		if errors[e] < 20 {
			t.Errorf("only %d times the error %v", errors[e], e)
		}
	}
}

// P9.2: lists and their libraries, by the second computation.
func TestListsComputedTwice(t *testing.T) {
	q, errors := &sequence{9}, map[api.Errno]int{}
	for range 300 {
		d := q.directory()
		r := registerOf(d)
		for range 30 {
			l, x := q.list(d), q.qualified(d)
			n, e := library.CheckList(d, l)
			if want, f := r.listError(l); n != want || e != f {
				t.Fatalf("CheckList(%v, %v): %d, %v, not %d, %v", d, l, n, e, want, f)
			}
			got, e := library.LibrariesFor(d, l, x)
			ranks, f := r.ranks(l, x)
			want := slices.SortedFunc(maps.Keys(ranks), func(a, b string) int { return ranks[a] - ranks[b] })
			errors[e]++
			if !slices.Equal(got, want) || e != f {
				t.Fatalf("LibrariesFor(%v, %v, %v): %v, %v, not %v, %v", d, l, x, got, e, want, f)
			}
		}
	}
	enough(t, errors, api.OK, api.ErrLarge, api.ErrName, api.ErrMissing, api.ErrDouble, api.ErrNone)
}

// P9.3, P9.6: what is resolved, and what matches, by the second computation.
func TestResolvedTwice(t *testing.T) {
	q, errors := &sequence{93}, map[api.Errno]int{}
	for range 300 {
		d := q.directory()
		r := registerOf(d)
		for range 60 {
			l, x := q.list(d), api.Resolution{Name: q.qualified(d), Type: q.objectType()}
			got, e := library.Matching(d, l, x)
			want, f := r.matching(l, x)
			errors[e]++
			if !slices.Equal(got, want) || e != f {
				t.Fatalf("Matching(%v, %v, %v): %v, %v, not %v, %v", d, l, x, got, e, want, f)
			}
			_, f = r.ranks(l, x.Name)
			f = cmp.Or(f, firstOf(rule{x.Name.Generic, api.ErrForm}, rule{x.Type == -1 || e == api.ErrKind, api.ErrKind}, rule{len(want) == 0, api.ErrMissing}))
			segment, e := library.Resolve(d, l, x)
			errors[e]++
			if e != f || e == api.OK && segment != r[want[0]].Segment || e != api.OK && segment != 0 {
				t.Fatalf("Resolve(%v, %v, %v): %d, %v, not %v, %v", d, l, x, segment, e, want, f)
			}
		}
	}
	enough(t, errors, api.OK, api.ErrForm, api.ErrKind, api.ErrMissing, api.ErrNone)
}

// P9.6: what is resolved is in a library for the name, none before it has such an object, and it is what matches first.
func TestFirstMatch(t *testing.T) {
	q, done := &sequence{96}, 0
	for range 300 {
		d := q.directory()
		for range 60 {
			l, x := q.list(d), api.Resolution{Name: q.qualified(d), Type: q.objectType()}
			segment, e := library.Resolve(d, l, x)
			if e != api.OK {
				continue
			}
			done++
			at, _ := object.FindSegment(d, segment)
			found := d.Objects[at].Name
			searched, _ := library.LibrariesFor(d, l, x.Name)
			i := slices.Index(searched, found.Library)
			if i < 0 || found.Name != x.Name.Name || found.Type != x.Type {
				t.Fatalf("Resolve(%v, %v): %v", l, x, found)
			}
			for _, s := range searched[:i] {
				if _, e := object.Find(d, name(s, x.Name.Name, x.Type)); e == api.OK {
					t.Fatalf("Resolve(%v, %v): %v, and %s before it", l, x, found, s)
				}
			}
			if all, e := library.Matching(d, l, x); e != api.OK || all[0] != found {
				t.Fatalf("Matching(%v, %v): %v, not first %v", l, x, all, found)
			}
		}
	}
	if done < 500 {
		t.Errorf("only %d are resolved", done)
	}
}

// moved is a second computation of Move.
func (r register) moved(n api.ObjectName, to string) (register, api.Errno) {
	e := cmp.Or(nameError(n), firstOf(rule{!r.has(n), api.ErrMissing}))
	if e != api.OK {
		return nil, e
	}
	permitted, _ := object.OperationsOf(n.Type)
	target := name(to, n.Name, n.Type)
	if e := cmp.Or(firstOf(rule{!slices.Contains(permitted, api.OperationMove), api.ErrRefused}), r.libraryError(to), firstOf(rule{r.has(target), api.ErrExists})); e != api.OK {
		return nil, e
	}
	out := maps.Clone(r)
	o := r[n]
	o.Name = target
	delete(out, n)
	out[target] = o
	return out, api.OK
}

// duplicated is a second computation of Duplicate.
func (r register) duplicated(next int, n, to api.ObjectName) (register, api.Errno) {
	e := cmp.Or(nameError(n), firstOf(rule{!r.has(n), api.ErrMissing}))
	if e != api.OK {
		return nil, e
	}
	permitted, _ := object.OperationsOf(n.Type)
	if !slices.Contains(permitted, api.OperationCopy) {
		return nil, api.ErrRefused
	}
	if e := cmp.Or(nameError(to), firstOf(rule{to.Type != n.Type, api.ErrType}, rule{to.Library != "QSYS" && !r.has(lib(to.Library)), api.ErrMissing}, rule{r.has(to), api.ErrExists}, rule{len(r) >= 40 || next >= 10000, api.ErrFull})); e != api.OK {
		return nil, e
	}
	out := maps.Clone(r)
	out[to] = api.Object{Name: to, Owner: r[n].Owner, Segment: next, Text: r[n].Text, Content: r[n].Content}
	return out, api.OK
}

// target returns a name for a duplicate, mostly one of the right type.
func (q *sequence) target(d api.Directory, n api.ObjectName) api.ObjectName {
	to := q.objectName(d)
	if !q.seldom(10) {
		to.Type = n.Type
	}
	return to
}

// P9.4: moves and duplicates by the second computation; what they lead to is valid, and they change no argument.
func TestMovedTwice(t *testing.T) {
	q, errors := &sequence{94}, map[api.Errno]int{}
	for range 300 {
		d := q.directory()
		for range 60 {
			room := append(slices.Clone(d.Objects), make([]api.Object, 3)...)
			d = directory(d.Next, room[:len(d.Objects)]...)
			before, r, n := slices.Clone(room), registerOf(d), q.named(d)
			to := q.target(d, n)
			got, e := library.Move(d, n, to.Library)
			wanted, f := r.moved(n, to.Library)
			next := d.Next
			if q.seldom(3) {
				got, e = library.Duplicate(d, n, to)
				wanted, f = r.duplicated(d.Next, n, to)
				next++
			}
			errors[e]++
			want := api.Directory{}
			if f == api.OK {
				want = wanted.directory(next)
			}
			if !same(got, want) || e != f || !slices.Equal(room, before) {
				t.Fatalf("%v to %v of %v: %v, %v, not %v, %v", n, to, d, got, e, want, f)
			}
			if e != api.OK {
				continue
			}
			if _, e := object.CheckDirectory(got); e != api.OK {
				t.Fatalf("%v to %v of %v: %v, %v", n, to, d, got, e)
			}
			d = got
		}
	}
	enough(t, errors, api.OK, api.ErrKind, api.ErrName, api.ErrClash, api.ErrMissing, api.ErrRefused, api.ErrExists, api.ErrType, api.ErrFull)
}

// P9.7: a segment that was resolved designates the same content and owner, whatever is moved, renamed or duplicated.
func TestOnceForAll(t *testing.T) {
	q, renamed := &sequence{97}, 0
	for range 200 {
		d := q.directory()
		l := q.list(d)
		x := api.Resolution{Name: qualified(q.library(d), q.oneOf("A", "AB", "B", "X")), Type: q.objectType()}
		segment, e := library.Resolve(d, l, x)
		if e != api.OK && len(d.Objects) > 0 {
			segment = d.Objects[q.below(len(d.Objects))].Segment
		}
		at, e := object.FindSegment(d, segment)
		if e != api.OK {
			continue
		}
		first := d.Objects[at]
		for range 80 {
			after, e := q.changed(d)
			if e != api.OK {
				continue
			}
			d = after
			at, e := object.FindSegment(d, segment)
			if e != api.OK || d.Objects[at].Owner != first.Owner || d.Objects[at].Content != first.Content {
				t.Fatalf("segment %d: %v in %v, not %v", segment, e, d, first)
			}
			if d.Objects[at].Name != first.Name {
				renamed++
			}
		}
	}
	if renamed < 1000 {
		t.Errorf("only %d times another name", renamed)
	}
}

// changed returns a directory in which something is moved, renamed or duplicated.
func (q *sequence) changed(d api.Directory) (api.Directory, api.Errno) {
	n := q.named(d)
	to := q.target(d, n)
	switch q.below(5) {
	case 0:
		return library.Duplicate(d, n, to)
	case 1, 2:
		return object.Rename(d, n, q.oneOf("A", "B", "AB", "NEW", "C", "D", "Z"))
	}
	return library.Move(d, n, to.Library)
}

// P9.8: what is moved and moved back is as it was.
func TestMovedBack(t *testing.T) {
	q, done := &sequence{98}, 0
	for range 200 {
		d := q.directory()
		for _, o := range d.Objects {
			to := q.library(d)
			there, e := library.Move(d, o.Name, to)
			if e != api.OK {
				continue
			}
			done++
			back, e := library.Move(there, name(to, o.Name.Name, o.Name.Type), o.Name.Library)
			if !same(back, d) || e != api.OK {
				t.Fatalf("%v to %s and back: %v, %v, not %v", o.Name, to, back, e, d)
			}
		}
	}
	if done < 500 {
		t.Errorf("only %d are moved", done)
	}
}

// withEntry is a second computation of the user part with a further entry.
func withEntry(user []string, e api.ListEntry) []string {
	var l []string
	if e.Position == api.PositionFirst {
		l = append(l, e.Library)
	}
	for _, s := range user {
		if s != e.Reference {
			l = append(l, s)
			continue
		}
		switch e.Position {
		case api.PositionAfter:
			l = append(l, s, e.Library)
		case api.PositionBefore:
			l = append(l, e.Library, s)
		case api.PositionReplace:
			l = append(l, e.Library)
		}
	}
	if e.Position == api.PositionLast {
		l = append(l, e.Library)
	}
	return l
}

// added is a second computation of AddEntry.
func (r register) added(l api.LibraryList, e api.ListEntry) (api.LibraryList, api.Errno) {
	if _, f := r.listError(l); f != api.OK {
		return api.LibraryList{}, f
	}
	if f := cmp.Or(r.libraryError(e.Library), firstOf(
		rule{e.Position < 0 || e.Position > 4, api.ErrKind}, rule{e.Position < 2 && e.Reference != "", api.ErrForm}, rule{e.Position >= 2 && e.Reference == "", api.ErrForm}, rule{e.Position >= 2 && !slices.Contains(l.User, e.Reference), api.ErrNone},
	)); f != api.OK {
		return api.LibraryList{}, f
	}
	user := withEntry(l.User, e)
	times := 0
	for _, s := range append(slices.Clone(l.System), user...) {
		if s == e.Library {
			times++
		}
	}
	if f := firstOf(rule{times > 1, api.ErrDouble}, rule{len(user) > 8, api.ErrFull}); f != api.OK {
		return api.LibraryList{}, f
	}
	return api.LibraryList{System: l.System, Current: l.Current, User: user}, api.OK
}

// withRoom returns a list with other strings behind its parts in memory, and all of these strings.
func withRoom(l api.LibraryList) (api.LibraryList, []string) {
	room := slices.Concat(l.System, []string{"x"}, l.User, []string{"y", "z"})
	i := len(l.System)
	return api.LibraryList{System: room[:i], Current: l.Current, User: room[i+1 : i+1+len(l.User)]}, room
}

// P9.5, P9.8: changes of lists by the second computation; they lead to valid lists, change no argument, and an added entry is removed again.
func TestListsChangedTwice(t *testing.T) {
	q, errors := &sequence{95}, map[api.Errno]int{}
	for range 200 {
		d := q.directory()
		r := registerOf(d)
		for range 60 {
			l, room := withRoom(q.list(d))
			before, e := slices.Clone(room), q.entry(d, l)
			got, f := library.AddEntry(d, l, e)
			errors[f]++
			want, g := r.added(l, e)
			if !sameList(got, want) || f != g || !slices.Equal(room, before) {
				t.Fatalf("AddEntry(%v, %v, %v): %v, %v, not %v, %v", d, l, e, got, f, want, g)
			}
			if f != api.OK {
				continue
			}
			if n, f := library.CheckList(d, got); n != len(got.System)+len(got.User) || f != api.OK {
				t.Fatalf("AddEntry(%v, %v): %v: %d, %v", l, e, got, n, f)
			}
			if back, f := library.RemoveEntry(d, got, e.Library); e.Position != api.PositionReplace && (!sameList(back, l) || f != api.OK) {
				t.Fatalf("RemoveEntry(%v, %q): %v, %v, not %v", got, e.Library, back, f, l)
			}
		}
	}
	enough(t, errors, api.OK, api.ErrLarge, api.ErrName, api.ErrMissing, api.ErrKind, api.ErrForm, api.ErrNone, api.ErrDouble, api.ErrFull)
}

// P9.5: entries that are removed and current libraries by the second computation.
func TestRemovedAndSetTwice(t *testing.T) {
	q, errors := &sequence{955}, map[api.Errno]int{}
	for range 200 {
		d := q.directory()
		r := registerOf(d)
		for range 30 {
			l, room := withRoom(q.list(d))
			before, s := slices.Clone(room), q.oneOf(append(slices.Clone(l.User), q.library(d))...)
			_, f := r.listError(l)
			want := api.LibraryList{System: l.System, Current: l.Current, User: strings.Fields(strings.Replace(" "+strings.Join(l.User, " ")+" ", " "+s+" ", " ", 1))}
			got, e := library.RemoveEntry(d, l, s)
			if f = cmp.Or(f, firstOf(rule{!slices.Contains(l.User, s), api.ErrNone})); f != api.OK {
				want = api.LibraryList{}
			}
			errors[e]++
			if !sameList(got, want) || e != f || !slices.Equal(room, before) {
				t.Fatalf("RemoveEntry(%v, %q): %v, %v, not %v, %v", l, s, got, e, want, f)
			}
			_, f = r.listError(l)
			if s != "" {
				f = cmp.Or(f, r.libraryError(s))
			}
			want = api.LibraryList{System: l.System, Current: s, User: l.User}
			if f != api.OK {
				want = api.LibraryList{}
			}
			got, e = library.SetCurrent(d, l, s)
			errors[e]++
			if !sameList(got, want) || e != f || !slices.Equal(room, before) {
				t.Fatalf("SetCurrent(%v, %q): %v, %v, not %v, %v", l, s, got, e, want, f)
			}
		}
	}
	enough(t, errors, api.OK, api.ErrLarge, api.ErrName, api.ErrMissing, api.ErrNone, api.ErrDouble)
}
