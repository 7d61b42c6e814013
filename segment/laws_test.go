package segment_test

import (
	"maps"
	"math"
	"slices"
	"strings"
	"testing"

	"midrange/api"
	"midrange/segment"
)

// sequence makes numbers that look like random ones, the same in each run.
type sequence struct{ state uint64 }

func (q *sequence) below(n int) int {
	q.state = q.state*6364136223846793005 + 1442695040888963407
	return int(q.state>>33) % n
}

// text returns so many bytes, many of them zero.
func (q *sequence) text(n int) string {
	bytes := make([]byte, n)
	if q.below(3) > 0 {
		for i := range bytes {
			bytes[i] = byte(q.below(2) * q.below(256))
		}
	}
	return string(bytes)
}

// store returns a right store; of some of them Next is the last one.
func (q *sequence) store() api.Store {
	s := storeOf(1 + q.below(20))
	if q.below(4) == 0 {
		s.Next = 1001 - q.below(3)
	}
	for number := max(1, s.Next-15); number < s.Next && len(s.Segments) < 10; number++ {
		if q.below(3) > 0 {
			s.Segments = append(s.Segments, api.Segment{Number: number, Bytes: q.text(32 * (1 + q.below(8)))})
		}
	}
	return s
}

// number returns the number of a segment of a store, or another number.
func (q *sequence) number(s api.Store) int {
	if n := len(s.Segments); n > 0 && q.below(8) > 0 {
		return s.Segments[q.below(n)].Number
	}
	return s.Next + 2 - q.below(20)
}

// operation returns an operation on a store, mostly a right one.
func (q *sequence) operation(s api.Store) api.SegOp {
	op := api.SegOp{Kind: q.below(api.SegKinds)}
	if op.Kind != api.SegCreate {
		op.Segment = q.number(s)
	}
	if op.Kind < api.SegDestroy {
		op.Pages = q.below(10)
	}
	if op.Kind == api.SegWrite {
		op.Offset = q.below(280) - 5
		op.Bytes = q.text(q.below(20) * q.below(4))
		for _, g := range s.Segments {
			if g.Number == op.Segment && q.below(2) == 0 {
				op.Offset = q.below(len(g.Bytes) + 1)
				op.Bytes = g.Bytes[op.Offset:]
			}
		}
	}
	switch q.below(40) {
	case 0:
		op.Kind = q.below(9) - 2
	case 1:
		op.Offset++
	case 2:
		op.Pages++
	case 3:
		op.Bytes += "x"
	}
	return op
}

// space is a second computation of a store: what stands at each address.
type space struct {
	next  int
	bytes map[api.Address]byte
	pages map[int]int
}

func spaceOf(s api.Store) space {
	x := space{s.Next, map[api.Address]byte{}, map[int]int{}}
	for _, g := range s.Segments {
		x.pages[g.Number] = len(g.Bytes) / 32
		for at := range len(g.Bytes) {
			x.bytes[address(g.Number, at)] = g.Bytes[at]
		}
	}
	return x
}

func (x space) store() api.Store {
	s := storeOf(x.next)
	for _, number := range slices.Sorted(maps.Keys(x.pages)) {
		var bytes []byte
		for at := range 32 * x.pages[number] {
			bytes = append(bytes, x.bytes[address(number, at)])
		}
		s.Segments = append(s.Segments, api.Segment{Number: number, Bytes: string(bytes)})
	}
	return s
}

// errorOf is the error of an operation.
func (x space) errorOf(op api.SegOp) api.Errno {
	uses := map[int]string{api.SegCreate: "P", api.SegExtend: "SP", api.SegTruncate: "SP", api.SegDestroy: "S", api.SegWrite: "SOB"}
	u, ok := uses[op.Kind]
	if !ok {
		return api.ErrKind
	}
	for part, zero := range map[string]bool{"S": op.Segment == 0, "P": op.Pages == 0, "O": op.Offset == 0, "B": op.Bytes == ""} {
		if !zero && !strings.Contains(u, part) {
			return api.ErrForm
		}
	}
	have, live := x.pages[op.Segment]
	newSize := map[int]bool{api.SegCreate: true, api.SegExtend: true}[op.Kind]
	switch {
	case op.Kind != api.SegCreate && !live && op.Segment > 0 && op.Segment < x.next:
		return api.ErrDestroyed
	case op.Kind != api.SegCreate && !live:
		return api.ErrMissing
	case newSize && (op.Pages < 1 || op.Pages > 8):
		return api.ErrRange
	case op.Kind == api.SegTruncate && (op.Pages < 1 || op.Pages > have):
		return api.ErrRange
	case op.Kind == api.SegWrite && (op.Offset < 0 || op.Offset+len(op.Bytes) > 32*have):
		return api.ErrRange
	case op.Kind == api.SegCreate && (len(x.pages) == 10 || x.next == 1001):
		return api.ErrFull
	case op.Kind == api.SegExtend && have+op.Pages > 8:
		return api.ErrFull
	}
	return api.OK
}

// do changes the space by an operation without an error.
func (x *space) do(op api.SegOp) {
	switch op.Kind {
	case api.SegCreate:
		x.pages[x.next] = op.Pages
		x.next++
	case api.SegExtend:
		x.pages[op.Segment] += op.Pages
	case api.SegTruncate:
		x.pages[op.Segment] = op.Pages
	case api.SegDestroy:
		delete(x.pages, op.Segment)
	case api.SegWrite:
		for i := range len(op.Bytes) {
			x.bytes[address(op.Segment, op.Offset+i)] = op.Bytes[i]
		}
	}
	for a := range x.bytes {
		if a.Offset >= 32*x.pages[a.Segment] {
			delete(x.bytes, a)
		}
	}
}

// called does an operation by its own function.
func called(s api.Store, op api.SegOp) (api.Store, api.Errno) {
	switch op.Kind {
	case api.SegCreate:
		after, number, e := segment.Created(s, op.Pages)
		if e == api.OK && number != s.Next {
			return after, api.ErrBroken
		}
		return after, e
	case api.SegExtend:
		return segment.Extended(s, op.Segment, op.Pages)
	case api.SegTruncate:
		return segment.Truncated(s, op.Segment, op.Pages)
	case api.SegDestroy:
		return segment.Destroyed(s, op.Segment)
	}
	return segment.Written(s, address(op.Segment, op.Offset), op.Bytes)
}

// P4.2 to P4.5: lists of operations do what the second computation does, to the first one with an error, and are what their functions are.
func TestAgainstSpace(t *testing.T) {
	q := &sequence{1}
	var seen [api.ErrEscape + 1]int
	for range 4000 {
		s := q.store()
		x := spaceOf(s)
		var l []api.SegOp
		e, at := api.OK, 0
		for now := s; e == api.OK && at < 5; {
			op := q.operation(now)
			l = append(l, op)
			if e = x.errorOf(op); e == api.OK {
				x.do(op)
				at++
			}
			if after, f := called(now, op); e != api.ErrKind && e != api.ErrForm && (f != e || e == api.OK && !same(after, x.store())) {
				t.Fatalf("%v on %v: %v, %v, not %v, %v", op, now, after, f, x.store(), e)
			}
			now = x.store()
		}
		seen[e]++
		want := x.store()
		if e != api.OK {
			want = api.Store{}
		}
		if got, n, f := segment.Applied(s, l); !same(got, want) || n != at || f != e {
			t.Fatalf("Applied(%v, %v): %v, %d, %v, not %v, %d, %v", s, l, got, n, f, want, at, e)
		}
	}
	for _, e := range []api.Errno{api.OK, api.ErrKind, api.ErrForm, api.ErrDestroyed, api.ErrMissing, api.ErrRange, api.ErrFull} {
		if seen[e] < 50 {
			t.Errorf("the error %v was seen %d times", e, seen[e])
		}
	}
}

// P4.1: a store after an operation is a right one, with as many pages as there are.
func TestStoresStayRight(t *testing.T) {
	q := &sequence{2}
	for range 4000 {
		s := q.store()
		after, _, e := segment.Applied(s, []api.SegOp{q.operation(s)})
		if e != api.OK {
			continue
		}
		pages := 0
		for _, n := range spaceOf(after).pages {
			pages += n
		}
		at, e := segment.CheckStore(after)
		if n, f := segment.PageCount(after); at != 0 || e != api.OK || n != pages || f != api.OK {
			t.Errorf("%v: %d, %v; %d pages, %v, not %d", after, at, e, n, f, pages)
		}
	}
}

// P4.7: each number is given once, the next one each time, and a destroyed one stays destroyed.
func TestNumbersAreNotUsedAgain(t *testing.T) {
	q := &sequence{3}
	s := storeOf(1)
	gone := map[int]bool{}
	for given := 0; given < 1000; {
		for _, number := range []int{given, given + 1, 1 + q.below(given+1)} {
			if _, e := segment.ReadAt(s, address(number, 0), 0); (e == api.ErrDestroyed) != gone[number] || (e == api.ErrMissing) != (number > given || number < 1) {
				t.Fatalf("%d of %d: %v", number, given, e)
			}
		}
		if len(s.Segments) == 10 || len(s.Segments) > 0 && q.below(3) == 0 {
			number := s.Segments[q.below(len(s.Segments))].Number
			after, e := segment.Destroyed(s, number)
			if e != api.OK {
				t.Fatalf("Destroyed(%d): %v", number, e)
			}
			s, gone[number] = after, true
			continue
		}
		after, number, e := segment.Created(s, 1+q.below(8))
		given++
		if number != given || e != api.OK {
			t.Fatalf("Created: %d, %v, not %d", number, e, given)
		}
		s = after
	}
	for len(s.Segments) > 0 {
		_, _, e := segment.Created(s, 1)
		after, f := segment.Destroyed(s, s.Segments[0].Number)
		if e != api.ErrFull || f != api.OK {
			t.Fatalf("at the end: %v, %v", e, f)
		}
		s = after
	}
	if _, _, e := segment.Created(s, 1); e != api.ErrFull {
		t.Errorf("Created when no number is left: %v", e)
	}
}

// P4.6, P4.8: what Undo returns leads back, and is no more than is asked for.
func TestUndone(t *testing.T) {
	q := &sequence{4}
	var seen [api.SegKinds][3]int
	for range 20000 {
		s := q.store()
		op := q.operation(s)
		after, _, e := segment.Applied(s, []api.SegOp{op})
		l, f := segment.Undo(s, op)
		if e == api.OK && (op.Kind == api.SegCreate || op.Kind == api.SegDestroy) {
			e = api.ErrRefused
		}
		if e != f || e != api.OK && len(l) > 0 {
			t.Fatalf("Undo(%v): %v, %v, not %v", op, l, f, e)
		}
		if e != api.OK {
			continue
		}
		seen[op.Kind][len(l)]++
		back, n, e := segment.Applied(after, l)
		if !same(back, s) || n != len(l) || e != api.OK || same(after, s) != (len(l) == 0) {
			t.Fatalf("%v on %v, then %v: %v, %d, %v", op, s, l, back, n, e)
		}
	}
	for _, n := range []int{seen[api.SegExtend][1], seen[api.SegTruncate][0], seen[api.SegTruncate][1], seen[api.SegTruncate][2], seen[api.SegWrite][0], seen[api.SegWrite][1]} {
		if n < 50 {
			t.Errorf("too few of a kind: %v", seen)
		}
	}
}

// P4.9: what was written is read, and all other bytes are as before.
func TestWrittenIsRead(t *testing.T) {
	q := &sequence{5}
	for range 5000 {
		s := q.store()
		if len(s.Segments) == 0 {
			continue
		}
		g := s.Segments[q.below(len(s.Segments))]
		at := q.below(len(g.Bytes) + 1)
		data := q.text(q.below(len(g.Bytes) - at + 1))
		after, e := segment.Written(s, address(g.Number, at), data)
		if text, f := segment.ReadAt(after, address(g.Number, at), len(data)); text != data || e != api.OK || f != api.OK {
			t.Fatalf("%q at %d: %v; %q, %v", data, at, e, text, f)
		}
		for _, h := range s.Segments {
			for i := range len(h.Bytes) {
				if h.Number == g.Number && i >= at && i < at+len(data) {
					continue
				}
				if text, e := segment.ReadAt(after, address(h.Number, i), 1); text != h.Bytes[i:i+1] || e != api.OK {
					t.Fatalf("%d of %d after %q at %d of %d: %q, %v", i, h.Number, data, at, g.Number, text, e)
				}
			}
		}
	}
}

// R3: arguments stay as they are, also behind their ends, and a result is memory of its own.
func TestResultsAreNew(t *testing.T) {
	room := make([]api.Segment, 3, 10)
	copy(room, threeSegments().Segments)
	s := storeOf(7, room...)
	l := []api.SegOp{write(2, 0, "x"), create(1), destroy(4)}
	for _, op := range []api.SegOp{create(1), extend(2, 1), truncate(4, 1), truncate(4, 8), destroy(2), destroy(5), write(5, 0, "x"), write(5, 0, "")} {
		after, e := called(s, op)
		spoil(after)
		again, _, f := segment.Applied(s, []api.SegOp{op})
		spoil(again)
		if e != api.OK || f != api.OK || !same(s, threeSegments()) || slices.ContainsFunc(room[3:10], func(g api.Segment) bool { return g != api.Segment{} }) {
			t.Fatalf("%v: %v, %v; the argument became %v", op, e, f, room[:10])
		}
	}
	for n := range len(l) + 1 {
		after, _, e := segment.Applied(s, l[:n])
		spoil(after)
		if e != api.OK || !same(s, threeSegments()) || !slices.Equal(l, []api.SegOp{write(2, 0, "x"), create(1), destroy(4)}) {
			t.Fatalf("Applied: %v; the arguments became %v, %v", e, s, l)
		}
	}
}

// spoil changes all of a store.
func spoil(s api.Store) {
	for i := range s.Segments {
		s.Segments[i] = api.Segment{Number: -1, Bytes: "spoiled"}
	}
	_ = append(s.Segments, s.Segments...)
}

// R1, R2: every call returns, and beside an error there is nothing else.
func TestEveryCallReturns(t *testing.T) {
	edges := []int{math.MinInt, math.MinInt + 1, -32, -1, 0, 1, 2, 4, 5, 7, 8, 9, 31, 32, 33, 255, 256, 257, 1000, 1001, math.MaxInt / 32, math.MaxInt - 32, math.MaxInt - 1, math.MaxInt}
	stores := []api.Store{{}, threeSegments(), storeOf(1), storeOf(1001, seg(1000, 1, "")), storeOf(math.MaxInt, seg(math.MaxInt-1, 1, "")), storeOf(5, api.Segment{Number: 1, Bytes: "x"})}
	for _, s := range stores {
		for _, a := range edges {
			for _, b := range edges {
				for _, c := range edges {
					if text, e := segment.ReadAt(s, address(a, b), c); (e != api.OK || len(text) != c) && (e == api.OK || text != "") {
						t.Errorf("ReadAt(%d, %d, %d): %q, %v", a, b, c, text, e)
					}
					for _, op := range []api.SegOp{{Kind: a, Segment: b, Pages: c}, {Kind: a, Segment: b, Offset: c, Bytes: "x"}, {Kind: a, Pages: b, Offset: c}} {
						after, n, e := segment.Applied(s, []api.SegOp{op})
						if e == api.OK {
							isRight(t, after)
						} else {
							nothing(t, "Applied", after, n, e, e)
						}
					}
				}
			}
		}
	}
}

func isRight(t *testing.T, s api.Store) {
	t.Helper()
	if at, e := segment.CheckStore(s); at != 0 || e != api.OK {
		t.Errorf("CheckStore(%v): %d, %v", s, at, e)
	}
}
