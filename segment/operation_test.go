package segment_test

import (
	"math"
	"slices"
	"strings"
	"testing"

	"midrange/api"
	"midrange/segment"
)

func create(pages int) api.SegOp {
	return api.SegOp{Kind: api.SegCreate, Pages: pages}
}

func extend(number, pages int) api.SegOp {
	return api.SegOp{Kind: api.SegExtend, Segment: number, Pages: pages}
}

func truncate(number, pages int) api.SegOp {
	return api.SegOp{Kind: api.SegTruncate, Segment: number, Pages: pages}
}

func destroy(number int) api.SegOp {
	return api.SegOp{Kind: api.SegDestroy, Segment: number}
}

func write(number, offset int, bytes string) api.SegOp {
	return api.SegOp{Kind: api.SegWrite, Segment: number, Offset: offset, Bytes: bytes}
}

// P4.5: operations that are done one after the other.
func TestApplied(t *testing.T) {
	three := threeSegments()
	for _, x := range []struct {
		s    api.Store
		l    []api.SegOp
		want api.Store
	}{
		{storeOf(1), nil, storeOf(1)}, {three, nil, three},
		{storeOf(1), []api.SegOp{create(2)}, storeOf(2, seg(1, 2, ""))},
		{storeOf(1), []api.SegOp{create(1), create(3), destroy(1), create(2)}, storeOf(4, seg(2, 3, ""), seg(3, 2, ""))},
		{three, []api.SegOp{extend(2, 1)}, storeOf(7, seg(2, 2, "two"), three.Segments[1], three.Segments[2])},
		{three, []api.SegOp{truncate(4, 1)}, storeOf(7, three.Segments[0], seg(4, 1, "four"), three.Segments[2])},
		{three, []api.SegOp{truncate(4, 8)}, three},
		{three, []api.SegOp{destroy(4)}, storeOf(7, three.Segments[0], three.Segments[2])},
		{three, []api.SegOp{write(5, 1, "our")}, storeOf(7, three.Segments[0], three.Segments[1], seg(5, 3, "four"))},
		{three, []api.SegOp{write(5, 96, "")}, three}, {three, []api.SegOp{write(5, 0, "five")}, three},
		{storeOf(1), []api.SegOp{create(1), write(1, 30, "ab"), extend(1, 1), write(1, 31, "cd"), truncate(1, 1)}, storeOf(2, seg(1, 1, strings.Repeat("\x00", 30)+"ac"))},
		{storeOf(1), []api.SegOp{create(8), write(1, 0, strings.Repeat("x", 256)), truncate(1, 1), extend(1, 7)}, storeOf(2, seg(1, 8, strings.Repeat("x", 32)))},
		{storeOf(1000), []api.SegOp{create(1), destroy(1000)}, storeOf(1001)},
	} {
		if s, n, e := segment.Applied(x.s, x.l); !same(s, x.want) || n != len(x.l) || e != api.OK {
			t.Errorf("Applied(%v, %v): %v, %d, %v, not %v", x.s, x.l, s, n, e, x.want)
		}
	}
}

// P4.5: 40 operations are done, 41 are too many, whatever they are.
func TestManyOperations(t *testing.T) {
	s := storeOf(1)
	want := storeOf(21)
	var l []api.SegOp
	for i := range 20 {
		l = append(l, create(1), destroy(i+1))
	}
	if got, n, e := segment.Applied(s, l); !same(got, want) || n != 40 || e != api.OK {
		t.Errorf("Applied of 40: %v, %d, %v", got, n, e)
	}
	got, n, e := segment.Applied(s, append(l, create(1)))
	nothing(t, "Applied of 41", got, n, e, api.ErrLarge)
	got, n, e = segment.Applied(s, append([]api.SegOp{{Kind: -1}}, l...))
	nothing(t, "Applied of 41, the first one wrong", got, n, e, api.ErrLarge)
}

// wrongOps are wrong for threeSegments.
var wrongOps = []struct {
	op api.SegOp
	e  api.Errno
}{
	{api.SegOp{Kind: -1}, api.ErrKind}, {api.SegOp{Kind: api.SegKinds}, api.ErrKind}, {api.SegOp{Kind: math.MinInt}, api.ErrKind}, {api.SegOp{Kind: math.MaxInt}, api.ErrKind}, {api.SegOp{Kind: -1, Segment: 1, Offset: 1, Pages: 1, Bytes: "x"}, api.ErrKind}, {api.SegOp{Kind: api.SegKinds, Segment: 4, Offset: 1, Pages: 1, Bytes: "x"}, api.ErrKind},
	{api.SegOp{Kind: api.SegCreate, Pages: 1, Segment: 1}, api.ErrForm}, {api.SegOp{Kind: api.SegCreate, Pages: 1, Segment: 7}, api.ErrForm}, {api.SegOp{Kind: api.SegCreate, Pages: 1, Offset: 1}, api.ErrForm}, {api.SegOp{Kind: api.SegCreate, Pages: 1, Bytes: "x"}, api.ErrForm}, {api.SegOp{Kind: api.SegCreate, Pages: 9, Segment: -1}, api.ErrForm},
	{api.SegOp{Kind: api.SegExtend, Segment: 2, Pages: 1, Offset: 32}, api.ErrForm}, {api.SegOp{Kind: api.SegExtend, Segment: 2, Pages: 1, Bytes: "x"}, api.ErrForm}, {api.SegOp{Kind: api.SegExtend, Segment: 9, Pages: 9, Offset: -1}, api.ErrForm},
	{api.SegOp{Kind: api.SegTruncate, Segment: 2, Pages: 1, Offset: 32}, api.ErrForm}, {api.SegOp{Kind: api.SegTruncate, Segment: 2, Pages: 1, Bytes: "\x00"}, api.ErrForm}, {api.SegOp{Kind: api.SegTruncate, Segment: 1, Pages: 0, Offset: 1}, api.ErrForm},
	{api.SegOp{Kind: api.SegDestroy, Segment: 2, Pages: 1}, api.ErrForm}, {api.SegOp{Kind: api.SegDestroy, Segment: 2, Offset: 1}, api.ErrForm}, {api.SegOp{Kind: api.SegDestroy, Segment: 2, Bytes: "x"}, api.ErrForm}, {api.SegOp{Kind: api.SegDestroy, Segment: 1, Pages: -1}, api.ErrForm},
	{api.SegOp{Kind: api.SegWrite, Segment: 2, Offset: 1, Bytes: "x", Pages: 1}, api.ErrForm}, {api.SegOp{Kind: api.SegWrite, Segment: 2, Pages: -1}, api.ErrForm}, {api.SegOp{Kind: api.SegWrite, Segment: 1, Offset: -1, Pages: 1}, api.ErrForm},
	{create(0), api.ErrRange}, {create(-1), api.ErrRange}, {create(9), api.ErrRange},
	{extend(1, 1), api.ErrDestroyed}, {extend(6, 0), api.ErrDestroyed}, {extend(0, 1), api.ErrMissing}, {extend(7, 9), api.ErrMissing}, {extend(2, 0), api.ErrRange}, {extend(2, 9), api.ErrRange}, {extend(4, 9), api.ErrRange}, {extend(2, 8), api.ErrFull}, {extend(4, 1), api.ErrFull}, {extend(5, 6), api.ErrFull},
	{truncate(3, 1), api.ErrDestroyed}, {truncate(1, 0), api.ErrDestroyed}, {truncate(-1, 1), api.ErrMissing}, {truncate(7, 0), api.ErrMissing}, {truncate(2, 0), api.ErrRange}, {truncate(2, 2), api.ErrRange}, {truncate(4, 9), api.ErrRange}, {truncate(5, -1), api.ErrRange},
	{destroy(1), api.ErrDestroyed}, {destroy(6), api.ErrDestroyed}, {destroy(0), api.ErrMissing}, {destroy(7), api.ErrMissing}, {destroy(-2), api.ErrMissing},
	{write(1, 0, ""), api.ErrDestroyed}, {write(3, -1, "x"), api.ErrDestroyed}, {write(0, 0, ""), api.ErrMissing}, {write(7, 0, "x"), api.ErrMissing}, {write(2, -1, ""), api.ErrRange}, {write(2, 33, ""), api.ErrRange}, {write(2, 32, "x"), api.ErrRange}, {write(2, 0, strings.Repeat("x", 33)), api.ErrRange}, {write(2, math.MaxInt, "x"), api.ErrRange}, {write(2, math.MinInt, "x"), api.ErrRange},
}

// P4.5, P4.6: operations that are wrong, alone, behind others, and before others that are wrong.
func TestWrongOperations(t *testing.T) {
	for _, x := range wrongOps {
		l, e := segment.Undo(threeSegments(), x.op)
		nothing(t, "Undo", api.Store{}, len(l), e, x.e)
		for at := range 5 {
			var ops []api.SegOp
			for range at {
				ops = append(ops, write(5, 5, "x"))
			}
			ops = append(ops, x.op)
			for _, behind := range [][]api.SegOp{nil, {create(1)}, {{Kind: -1}}, {{Kind: api.SegWrite, Pages: 1}, destroy(0)}} {
				s, n, e := segment.Applied(threeSegments(), slices.Concat(ops, behind))
				if !isNothing(s) || n != at || e != x.e {
					t.Errorf("Applied(%v) at %d: %v, %d, %v, not %v", x.op, at, s, n, e, x.e)
				}
			}
		}
	}
}

// P4.5: an operation is wrong, or right, by what those before it left.
func TestWrongBehindOthers(t *testing.T) {
	three := threeSegments()
	ten := storeOf(11, rowOf(1, 10)...)
	for _, x := range []struct {
		s  api.Store
		l  []api.SegOp
		at int
		e  api.Errno
	}{
		{three, []api.SegOp{destroy(2), write(2, 0, "x")}, 1, api.ErrDestroyed}, {three, []api.SegOp{destroy(2), destroy(2)}, 1, api.ErrDestroyed}, {three, []api.SegOp{write(7, 0, ""), create(1)}, 0, api.ErrMissing}, {three, []api.SegOp{create(1), write(8, 0, "")}, 1, api.ErrMissing}, {three, []api.SegOp{create(1), destroy(7), extend(7, 1)}, 2, api.ErrDestroyed},
		{three, []api.SegOp{extend(2, 7), extend(2, 1)}, 1, api.ErrFull}, {three, []api.SegOp{truncate(4, 7), extend(4, 1), extend(4, 1)}, 2, api.ErrFull}, {three, []api.SegOp{truncate(5, 1), truncate(5, 2)}, 1, api.ErrRange}, {three, []api.SegOp{truncate(5, 1), write(5, 32, "x")}, 1, api.ErrRange}, {three, []api.SegOp{extend(2, 1), write(2, 63, "ab")}, 1, api.ErrRange},
		{ten, []api.SegOp{create(1)}, 0, api.ErrFull}, {ten, []api.SegOp{destroy(10), create(1), create(1)}, 2, api.ErrFull}, {storeOf(1000), []api.SegOp{create(1), create(1)}, 1, api.ErrFull}, {storeOf(1000), []api.SegOp{create(1), destroy(1000), create(1)}, 2, api.ErrFull}, {storeOf(1001), []api.SegOp{create(1)}, 0, api.ErrFull},
	} {
		if s, n, e := segment.Applied(x.s, x.l); !isNothing(s) || n != x.at || e != x.e {
			t.Errorf("Applied(%v, %v): %v, %d, %v, not %d, %v", x.s, x.l, s, n, e, x.at, x.e)
		}
	}
	if s, n, e := segment.Applied(ten, []api.SegOp{destroy(1), create(1)}); !same(s, storeOf(12, rowOf(2, 10)...)) || n != 2 || e != api.OK {
		t.Errorf("Applied when one of ten is gone: %v, %d, %v", s, n, e)
	}
}

// P4.6: what takes operations back.
func TestUndo(t *testing.T) {
	x := strings.Repeat("x", 32)
	s := storeOf(9, seg(2, 3, "two"), seg(3, 4, x+"\x00y"), seg(4, 4, strings.Repeat(x, 3)+strings.Repeat("\x00", 31)+"z"), seg(7, 8, strings.Repeat(x, 8)))
	for _, c := range []struct {
		op   api.SegOp
		want []api.SegOp
	}{
		{extend(2, 1), []api.SegOp{truncate(2, 3)}}, {extend(2, 5), []api.SegOp{truncate(2, 3)}}, {extend(4, 4), []api.SegOp{truncate(4, 4)}},
		{truncate(2, 3), nil}, {truncate(7, 8), nil}, {truncate(2, 2), []api.SegOp{extend(2, 1)}}, {truncate(2, 1), []api.SegOp{extend(2, 2)}}, {truncate(3, 2), []api.SegOp{extend(3, 2)}},
		{truncate(3, 1), []api.SegOp{extend(3, 3), write(3, 32, paged(3, "\x00y"))}}, {truncate(4, 3), []api.SegOp{extend(4, 1), write(4, 96, strings.Repeat("\x00", 31)+"z")}}, {truncate(4, 2), []api.SegOp{extend(4, 2), write(4, 64, x+strings.Repeat("\x00", 31)+"z")}}, {truncate(7, 1), []api.SegOp{extend(7, 7), write(7, 32, strings.Repeat(x, 7))}},
		{write(2, 0, "two"), nil}, {write(2, 5, ""), nil}, {write(2, 96, ""), nil}, {write(2, 50, "\x00\x00"), nil}, {write(7, 0, strings.Repeat(x, 8)), nil},
		{write(2, 0, "one"), []api.SegOp{write(2, 0, "two")}}, {write(2, 1, "w\x00"), []api.SegOp{write(2, 1, "wo")}}, {write(2, 1, "xo"), []api.SegOp{write(2, 1, "wo")}}, {write(2, 95, "\x01"), []api.SegOp{write(2, 95, "\x00")}}, {write(7, 100, "a"), []api.SegOp{write(7, 100, "x")}}, {write(7, 0, strings.Repeat("y", 256)), []api.SegOp{write(7, 0, strings.Repeat("x", 256))}}, {write(3, 31, "abc"), []api.SegOp{write(3, 31, "x\x00y")}},
	} {
		got, e := segment.Undo(s, c.op)
		if !slices.Equal(got, c.want) || e != api.OK {
			t.Errorf("Undo(%v): %v, %v, not %v", c.op, got, e, c.want)
		}
		if after, _, e := segment.Applied(s, append([]api.SegOp{c.op}, c.want...)); !same(after, s) || e != api.OK {
			t.Errorf("%v and %v: %v, %v", c.op, c.want, after, e)
		}
	}
}

// P4.6: what can be done and is not taken back.
func TestUndoRefused(t *testing.T) {
	for _, x := range []struct {
		s  api.Store
		op api.SegOp
		e  api.Errno
	}{
		{storeOf(1), create(1), api.ErrRefused}, {threeSegments(), create(8), api.ErrRefused}, {storeOf(1000), create(1), api.ErrRefused}, {threeSegments(), destroy(2), api.ErrRefused}, {threeSegments(), destroy(5), api.ErrRefused},
		{storeOf(1001), create(1), api.ErrFull}, {storeOf(11, rowOf(1, 10)...), create(1), api.ErrFull}, {storeOf(1001), create(0), api.ErrRange}, {storeOf(1001), destroy(1), api.ErrDestroyed}, {storeOf(1001), destroy(1001), api.ErrMissing},
	} {
		l, e := segment.Undo(x.s, x.op)
		nothing(t, "Undo", api.Store{}, len(l), e, x.e)
	}
}

// Example 3.
func TestExampleOfUndo(t *testing.T) {
	s := storeOf(2, seg(1, 2, strings.Repeat("\x00", 30)+"abcd"))
	l, e := segment.Undo(s, truncate(1, 1))
	if want := []api.SegOp{extend(1, 1), write(1, 32, "cd"+strings.Repeat("\x00", 30))}; !slices.Equal(l, want) || e != api.OK {
		t.Errorf("Undo: %v, %v", l, e)
	}
}
