package object_test

import (
	"cmp"
	"fmt"
	"maps"
	"regexp"
	"slices"
	"strings"
	"testing"

	"midrange/api"
	"midrange/object"
)

// sequence makes numbers that look like random ones, the same in each run.
type sequence struct{ state uint64 }

func (q *sequence) below(n int) int {
	q.state = q.state*6364136223846793005 + 1442695040888963407
	return int(q.state>>33) % n
}

func (q *sequence) oneOf(l ...string) string {
	return l[q.below(len(l))]
}

// text returns a few bytes, seldom too many or wrong ones.
func (q *sequence) text(most int) string {
	if q.below(30) == 0 {
		return strings.Repeat("x", most+q.below(2))
	}
	return q.oneOf("", "a", "b c", "~", "c", "d", "e\n")
}

// library returns the name of a library, of few that there are.
func (q *sequence) library() string {
	return q.oneOf("QSYS", "QSYS", "A", "B", "Z", "APP")
}

// objectName returns a name, mostly a right one.
func (q *sequence) objectName() api.ObjectName {
	n := name(q.library(), q.oneOf("A", "B", "Z", "APP", "X", "A1", "RUN"), q.below(api.ObjectTypes))
	switch q.below(3) {
	case 0:
		n.Type = api.TypeLibrary
	case 1:
		n.Type = []int{api.TypeProgram, api.TypeFile, api.TypeCommand, api.TypeSaveFile, api.TypeJournal}[q.below(5)]
	}
	if slices.Contains(systemTypes, rows[n.Type].name) {
		n.Library = "QSYS"
	}
	switch q.below(60) {
	case 0:
		n.Type = q.below(40) - 5
	case 1:
		n.Library = q.oneOf("", "a", "NOWHERE", "QSYS", "A")
	case 2:
		n.Name = q.oneOf("", "a", "QSYS", "0")
	}
	return n
}

// named returns the name of an object of a directory, or another one.
func (q *sequence) named(d api.Directory) api.ObjectName {
	if len(d.Objects) > 0 && q.below(6) > 0 {
		return d.Objects[q.below(len(d.Objects))].Name
	}
	return q.objectName()
}

// action returns an action on a directory, mostly a right one.
func (q *sequence) action(d api.Directory) api.ObjectAction {
	a := api.ObjectAction{Kind: []int{api.ActionCreate, api.ActionCreate, api.ActionDestroy, api.ActionRename, api.ActionRename, api.ActionChange, api.ActionClear}[q.below(7)]}
	a.Object = api.Object{Name: q.named(d), Owner: q.oneOf("OWNER", "$"), Text: "text", Content: q.text(120)}
	if a.Kind == api.ActionCreate {
		a.Object.Name = q.objectName()
		a.Object.Text = q.text(50)
	}
	a.Name = q.oneOf("A", "B", "Z", "APP", "X", "A1", "RUN", "QSYS", "NEW")
	switch q.below(60) {
	case 0:
		a.Kind = q.below(9) - 2
	case 1:
		a.Object.Segment = 1 + q.below(9)
	case 2:
		a.Object.Owner = q.oneOf("", "owner")
	case 3:
		a.Name = q.oneOf("", "a", "0")
	}
	return a
}

var namePattern = regexp.MustCompile(`^[A-Z$#@][A-Z0-9_.$#@]{0,9}$`)

var textPattern = regexp.MustCompile(`^[ -~]*$`)

// rule is an error, and whether it applies.
type rule struct {
	applies bool
	e       api.Errno
}

// firstOf returns the error that is listed first of those that apply.
func firstOf(l ...rule) api.Errno {
	for _, r := range l {
		if r.applies {
			return r.e
		}
	}
	return api.OK
}

// nameError and objectError are a second computation of P8.2.
func nameError(n api.ObjectName) api.Errno {
	if n.Type < 0 || n.Type > 29 {
		return api.ErrKind
	}
	kind := rows[n.Type].name
	return firstOf(
		rule{!namePattern.MatchString(n.Library), api.ErrName}, rule{!namePattern.MatchString(n.Name), api.ErrName},
		rule{slices.Contains(systemTypes, kind) && n.Library != "QSYS", api.ErrClash}, rule{kind == "*LIB" && n.Name == "QSYS", api.ErrClash},
	)
}

func objectError(o api.Object) api.Errno {
	return cmp.Or(nameError(o.Name), firstOf(
		rule{!namePattern.MatchString(o.Owner), api.ErrName}, rule{len(o.Text) > 50, api.ErrLarge}, rule{len(o.Content) > 120, api.ErrLarge}, rule{!textPattern.MatchString(o.Text), api.ErrSyntax},
	))
}

// sortKey is a text by whose order objects stand.
func sortKey(n api.ObjectName) string {
	return fmt.Sprintf("%s %s %02d", n.Library, n.Name, n.Type)
}

// directoryError is a second computation of P8.3.
func directoryError(d api.Directory) (int, api.Errno) {
	if e := firstOf(rule{len(d.Objects) > 40, api.ErrLarge}, rule{d.Next < 1, api.ErrRange}, rule{d.Next > 10000, api.ErrRange}); e != api.OK {
		return 0, e
	}
	libraries := map[string]bool{"QSYS": true}
	for _, o := range d.Objects {
		if o.Name.Type == 0 {
			libraries[o.Name.Name] = true
		}
	}
	before, segments := "", map[int]bool{}
	for i, o := range d.Objects {
		e := cmp.Or(objectError(o), firstOf(
			rule{o.Segment < 1 || d.Next <= o.Segment, api.ErrRange}, rule{sortKey(o.Name) <= before, api.ErrOrder}, rule{segments[o.Segment], api.ErrDouble}, rule{!libraries[o.Name.Library], api.ErrMissing},
		))
		if e != api.OK {
			return i, e
		}
		before, segments[o.Segment] = sortKey(o.Name), true
	}
	return len(d.Objects), api.OK
}

// register is a second computation of a directory: its objects by their names.
type register struct {
	next    int
	objects map[api.ObjectName]api.Object
}

func registerOf(d api.Directory) register {
	r := register{d.Next, map[api.ObjectName]api.Object{}}
	for _, o := range d.Objects {
		r.objects[o.Name] = o
	}
	return r
}

func (r register) directory() api.Directory {
	l := slices.SortedFunc(maps.Values(r.objects), func(a, b api.Object) int { return strings.Compare(sortKey(a.Name), sortKey(b.Name)) })
	return directory(r.next, l...)
}

// has says whether there is an object with a name.
func (r register) has(n api.ObjectName) bool {
	_, ok := r.objects[n]
	return ok
}

// count returns the number of objects in a library.
func (r register) count(library string) int {
	n := 0
	for x := range r.objects {
		if x.Library == library {
			n++
		}
	}
	return n
}

// errorOf is the error of an action (P8.5 to P8.7).
func (r register) errorOf(a api.ObjectAction) api.Errno {
	words := map[int]string{api.ActionCreate: "", api.ActionDestroy: "destroy", api.ActionRename: "rename", api.ActionChange: "change", api.ActionClear: "clear"}
	word, ok := words[a.Kind]
	if !ok {
		return api.ErrKind
	}
	n := a.Object.Name
	if a.Kind == api.ActionCreate {
		return cmp.Or(objectError(a.Object), firstOf(
			rule{a.Object.Segment != 0, api.ErrForm}, rule{n.Library != "QSYS" && !r.has(lib(n.Library)), api.ErrMissing}, rule{r.has(n), api.ErrExists}, rule{len(r.objects) == 40 || r.next == 10000, api.ErrFull},
		))
	}
	if e := cmp.Or(nameError(n), firstOf(rule{!r.has(n), api.ErrMissing})); e != api.OK {
		return e
	}
	renamed := name(n.Library, a.Name, n.Type)
	switch {
	case !permitted(n.Type, word):
		return api.ErrRefused
	case a.Kind == api.ActionDestroy:
		return firstOf(rule{n == lib(n.Name) && r.count(n.Name) > 0, api.ErrState})
	case a.Kind == api.ActionRename:
		return cmp.Or(nameError(renamed), firstOf(rule{r.has(renamed), api.ErrExists}))
	}
	return firstOf(rule{a.Kind == api.ActionChange && len(a.Object.Content) > 120, api.ErrLarge})
}

// after returns what an action without an error leads to.
func (r register) after(a api.ObjectAction) register {
	out, n := register{r.next, maps.Clone(r.objects)}, a.Object.Name
	o := out.objects[n]
	switch a.Kind {
	case api.ActionCreate:
		o = a.Object
		o.Segment = r.next
		out.next++
		out.objects[n] = o
	case api.ActionDestroy:
		delete(out.objects, n)
	case api.ActionRename:
		out.objects = map[api.ObjectName]api.Object{}
		for _, x := range r.objects {
			if x.Name == n {
				x.Name.Name = a.Name
			}
			if n.Type == 0 && x.Name.Library == n.Name {
				x.Name.Library = a.Name
			}
			out.objects[x.Name] = x
		}
	case api.ActionChange:
		o.Content = a.Object.Content
		out.objects[n] = o
	case api.ActionClear:
		o.Content = ""
		out.objects[n] = o
	}
	return out
}

// walk makes actions on a directory one after the other, and has each one checked.
func walk(q *sequence, d api.Directory, steps int, check func(before api.Directory, a api.ObjectAction, after api.Directory, e api.Errno)) {
	for range steps {
		a := q.action(d)
		after, e := object.Perform(d, a)
		check(d, a, after, e)
		if e == api.OK {
			d = after
		}
	}
}

// starts are directories from which walks begin: empty ones, and ones with few free places or segments.
func starts() []api.Directory {
	return []api.Directory{directory(1), app(), everyType(), files(35), directory(9990), directory(9990, app().Objects...), directory(9980, everyType().Objects...)}
}

// P8.5 to P8.8: actions lead to the same directories and errors as the second computation says.
func TestActionsComputedTwice(t *testing.T) {
	q, done, errors := &sequence{8}, map[int]int{}, map[api.Errno]int{}
	for range 40 {
		for _, d := range starts() {
			walk(q, d, 120, func(before api.Directory, a api.ObjectAction, after api.Directory, e api.Errno) {
				r := registerOf(before)
				want, f := api.Directory{}, r.errorOf(a)
				if f == api.OK {
					want = r.after(a).directory()
					done[a.Kind]++
				}
				errors[f]++
				if !same(after, want) || e != f {
					t.Fatalf("%v of %v: %v, %v, not %v, %v", a, before, after, e, want, f)
				}
			})
		}
	}
	for kind := range api.ActionKinds {
		if done[kind] < 500 {
			t.Errorf("only %d actions of kind %d", done[kind], kind)
		}
	}
	for _, e := range []api.Errno{api.ErrKind, api.ErrName, api.ErrClash, api.ErrLarge, api.ErrSyntax, api.ErrForm, api.ErrMissing, api.ErrExists, api.ErrFull, api.ErrState, api.ErrRefused} {
		if errors[e] < 20 {
			t.Errorf("only %d times the error %v", errors[e], e)
		}
	}
}

// P8.3, P8.8: what actions lead to is valid, and they change no argument, nor what stands behind its objects in memory.
func TestActionsLeadToValidDirectories(t *testing.T) {
	q := &sequence{88}
	for range 20 {
		for _, d := range starts() {
			for range 60 {
				room := append(slices.Clone(d.Objects), make([]api.Object, 5)...)
				d = directory(d.Next, room[:len(d.Objects)]...)
				before, a := slices.Clone(room), q.action(d)
				after, e := object.Perform(d, a)
				if !slices.Equal(room, before) {
					t.Fatalf("%v changes its argument %v to %v", a, before, room)
				}
				if e != api.OK {
					continue
				}
				if n, f := object.CheckDirectory(after); n != len(after.Objects) || f != api.OK {
					t.Fatalf("%v of %v leads to %v: %d, %v", a, d, after, n, f)
				}
				d = after
			}
		}
	}
}

// P8.3: directories in which something is changed have the same errors by the second computation.
func TestDirectoriesComputedTwice(t *testing.T) {
	q, errors := &sequence{888}, map[api.Errno]int{}
	for range 400 {
		d := starts()[q.below(7)]
		walk(q, d, q.below(30), func(_ api.Directory, _ api.ObjectAction, after api.Directory, e api.Errno) {
			if e == api.OK {
				d = after
			}
		})
		for range 30 {
			bad := q.spoiled(d)
			at, e := directoryError(bad)
			errors[e]++
			if got, f := object.CheckDirectory(bad); got != at || f != e {
				t.Fatalf("CheckDirectory(%v): %d, %v, not %d, %v", bad, got, f, at, e)
			}
		}
	}
	for _, e := range []api.Errno{api.OK, api.ErrLarge, api.ErrRange, api.ErrKind, api.ErrName, api.ErrClash, api.ErrSyntax, api.ErrOrder, api.ErrDouble, api.ErrMissing} {
		if errors[e] < 20 {
			t.Errorf("only %d times the error %v", errors[e], e)
		}
	}
}

// spoiled returns a directory in which up to three things are changed; it may still be valid.
func (q *sequence) spoiled(d api.Directory) api.Directory {
	d = copyOf(d)
	for range 1 + q.below(3) {
		if len(d.Objects) == 0 || q.below(20) == 0 {
			d.Next = []int{-1, 0, 1, 5, 10, 9999, 10000, 10001}[q.below(8)]
			continue
		}
		i, j := q.below(len(d.Objects)), q.below(len(d.Objects))
		o := &d.Objects[i]
		switch q.below(9) {
		case 0:
			o.Segment = []int{-1, 0, 1, d.Next - 1, d.Next, d.Next + 1, d.Objects[j].Segment}[q.below(7)]
		case 1:
			d.Objects[i], d.Objects[j] = d.Objects[j], d.Objects[i]
		case 2:
			o.Owner = q.oneOf("", "a", "A*", "ABCDEFGHIJK", "ABCDEFGHIJ")
		case 3:
			o.Text = q.text(50)
		case 4:
			o.Content = strings.Repeat("x", 119+q.below(3))
		case 5:
			o.Name = q.objectName()
		case 6:
			d.Objects = slices.Delete(d.Objects, i, i+1)
		case 7:
			d.Objects = slices.Insert(d.Objects, i, slices.Repeat(d.Objects[j:j+1], 1+q.below(4))...)
		case 8:
			o.Name.Type = q.below(34) - 2
		}
	}
	return d
}

// bySegment returns the objects of a directory by their segments.
func bySegment(d api.Directory) map[int]api.Object {
	m := map[int]api.Object{}
	for _, o := range d.Objects {
		m[o.Segment] = o
	}
	return m
}

// P8.8: an object with the same segment is the same one, but for what the action changes.
func TestObjectsKeepTheirSegments(t *testing.T) {
	q := &sequence{1988}
	for range 30 {
		for _, d := range starts() {
			walk(q, d, 100, func(before api.Directory, a api.ObjectAction, after api.Directory, e api.Errno) {
				old := bySegment(before)
				for segment, o := range bySegment(after) {
					x, ok := old[segment]
					if !ok {
						if a.Kind != api.ActionCreate || segment != before.Next {
							t.Fatalf("%v makes %v", a, o)
						}
						continue
					}
					meant := x.Name == a.Object.Name
					if meant && (a.Kind == api.ActionChange || a.Kind == api.ActionClear) {
						x.Content = o.Content
					}
					if meant && a.Kind == api.ActionRename {
						x.Name.Name = a.Name
					}
					if a.Kind == api.ActionRename && x.Name.Library == a.Object.Name.Name && a.Object.Name.Type == api.TypeLibrary {
						x.Name.Library = a.Name
					}
					if x != o {
						t.Fatalf("%v leads from %v to %v", a, x, o)
					}
				}
			})
		}
	}
}

// P8.9: Next never becomes lower, and the segment of a destroyed object never comes back.
func TestSegmentsAreNotReused(t *testing.T) {
	q := &sequence{1989}
	for range 30 {
		for _, d := range starts() {
			gone := map[int]bool{}
			walk(q, d, 150, func(before api.Directory, a api.ObjectAction, after api.Directory, e api.Errno) {
				if e != api.OK {
					return
				}
				now := bySegment(after)
				for segment := range bySegment(before) {
					if _, ok := now[segment]; !ok {
						gone[segment] = true
					}
				}
				for segment := range now {
					if gone[segment] {
						t.Fatalf("%v brings the segment %d back", a, segment)
					}
				}
				if after.Next < before.Next {
					t.Fatalf("%v leads from %d to %d", a, before.Next, after.Next)
				}
			})
		}
	}
	// Also the highest segment of all.
	d := directory(9999)
	d, _ = object.Create(d, owned(lib("APP"), 0))
	d, e := object.Destroy(d, lib("APP"))
	alike(t, "Destroy", d, e, directory(10000), api.OK)
	none, e := object.Create(d, owned(lib("APP"), 0))
	nothing(t, "Create", none, e, api.ErrFull)
}

// P8.10: no action changes a content that can be neither changed nor cleared.
func TestContentsAreEncapsulated(t *testing.T) {
	q := &sequence{1990}
	for range 30 {
		for _, d := range starts() {
			walk(q, d, 100, func(before api.Directory, a api.ObjectAction, after api.Directory, e api.Errno) {
				old := bySegment(before)
				for segment, o := range bySegment(after) {
					x, ok := old[segment]
					if ok && x.Content != o.Content && !permitted(o.Name.Type, "change") && !permitted(o.Name.Type, "clear") {
						t.Fatalf("%v changes the content of %v to %q", a, x, o.Content)
					}
				}
			})
		}
	}
}
