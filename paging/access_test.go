package paging_test

import (
	"math"
	"slices"
	"strings"
	"testing"

	"midrange/api"
	"midrange/paging"
)

func read(pool, segment, offset, n int) api.PageAccess {
	return api.PageAccess{Kind: api.PageRead, Pool: pool, Address: api.Address{Segment: segment, Offset: offset}, Length: n}
}

func write(pool, segment, offset int, bytes string) api.PageAccess {
	return api.PageAccess{Kind: api.PageWrite, Pool: pool, Address: api.Address{Segment: segment, Offset: offset}, Bytes: bytes}
}

func force(segment int) api.PageAccess {
	return api.PageAccess{Kind: api.PageForce, Address: api.Address{Segment: segment}}
}

var flush = api.PageAccess{Kind: api.PageFlush}

// do returns the memory after accesses without an error.
func do(t *testing.T, x api.Paging, l ...api.PageAccess) api.Paging {
	t.Helper()
	after, _, n, e := paging.Run(x, l)
	if n != len(l) || e != api.OK {
		t.Fatalf("Run(%v): %d, %v", l, n, e)
	}
	return after
}

// upper returns the bytes of a page that was changed in the sample.
func upper(segment, page int) string {
	return changed(0, segment, page, 1, 0).Bytes
}

// P5.3: what accesses to the sample read, and what is other behind them.
func TestAccesses(t *testing.T) {
	one, three := pageText(1, 0), seg(3, 8).Bytes
	for i, c := range []struct {
		a     api.PageAccess
		bytes string
		to    func(*api.Paging)
	}{
		{read(0, 1, 0, 4), "10:.", func(x *api.Paging) { x.Time, x.Frames[0].Last = 10, 10 }},
		{read(1, 1, 31, 1), ".", func(x *api.Paging) { x.Time, x.Frames[0].Last = 10, 10 }},
		{read(2, 1, 0, 32), one, func(x *api.Paging) { x.Time, x.Frames[0].Last = 10, 10 }},
		{read(2, 3, 4*32+2, 2), "X.", func(x *api.Paging) { x.Time, x.Frames[2].Last = 10, 10 }},
		{read(0, 1, 96, 0), "", func(x *api.Paging) {}}, {read(2, 1, 32, 0), "", func(x *api.Paging) {}}, {write(2, 1, 96, ""), "", func(x *api.Paging) {}}, {write(0, 1, 0, ""), "", func(x *api.Paging) {}},
		{read(0, 1, 63, 1), ".", func(x *api.Paging) {
			x.Time, x.Reads = 10, 21
			x.Frames[0], x.Frames[3].Next, x.Heads[2], x.Heads[3] = clean(0, 1, 1, 10, 5), 4, 3, 0
		}},
		{read(1, 3, 0, 3), "30:", func(x *api.Paging) {
			x.Time, x.Reads, x.Frames[1], x.Heads[1] = 10, 21, clean(1, 3, 0, 10, api.None), 1
		}},
		{read(2, 3, 5*32, 2), "35", func(x *api.Paging) {
			x.Time, x.Reads, x.Frames[3], x.Frames[0].Next, x.Heads[1] = 10, 21, clean(2, 3, 5, 10, api.None), 4, 3
		}},
		{read(2, 3, 31, 34), three[31:64] + "3", func(x *api.Paging) { // page 0 replaces page 1, which is read again in its place, and page 2 then
			x.Time, x.Reads, x.Frames[3], x.Frames[0].Next, x.Heads[3] = 12, 23, clean(2, 3, 2, 12, 5), 4, 3
		}},
		{write(0, 1, 30, "a"), "", func(x *api.Paging) {
			x.Time, x.Frames[0].Last, x.Frames[0].Changed, x.Frames[0].Bytes = 10, 10, true, one[:30]+"a."
		}},
		{write(2, 1, 0, "10"), "", func(x *api.Paging) { x.Time, x.Frames[0].Last, x.Frames[0].Changed = 10, 10, true }},
		{write(1, 3, 6*32+1, "\x00\xff"), "", func(x *api.Paging) {
			x.Time, x.Frames[4].Last, x.Frames[4].Bytes = 10, 10, "3\x00\xff"+upper(3, 6)[3:]
		}},
		{write(1, 1, 28, "123456"), "", func(x *api.Paging) {
			x.Time, x.Reads, x.Frames[0].Last, x.Frames[0].Changed, x.Frames[0].Bytes = 11, 21, 10, true, one[:28]+"1234"
			x.Frames[1], x.Heads[3] = clean(1, 1, 1, 11, 5), 1
			x.Frames[1].Changed, x.Frames[1].Bytes = true, "56"+pageText(1, 1)[2:]
		}},
		{force(1), "", func(x *api.Paging) {}}, {force(4), "", func(x *api.Paging) {}},
		{force(3), "", func(x *api.Paging) {
			x.Written, x.Frames[2].Changed, x.Frames[4].Changed = 5, false, false
			x.Disk.Segments[1].Bytes = three[:4*32] + upper(3, 4) + pageText(3, 5) + upper(3, 6) + pageText(3, 7)
		}},
		{flush, "", func(x *api.Paging) {
			x.Written, x.Frames[2].Changed, x.Frames[4].Changed = 5, false, false
			x.Disk.Segments[1].Bytes = three[:4*32] + upper(3, 4) + pageText(3, 5) + upper(3, 6) + pageText(3, 7)
		}},
	} {
		if x, bytes, e := paging.Accessed(sample(), c.a); !same(x, with(c.to)) || bytes != c.bytes || e != api.OK {
			t.Errorf("%d: Accessed(%v): %v, %q, %v, not %v, %q", i, c.a, x, bytes, e, with(c.to), c.bytes)
		}
	}
}

// P5.3: a changed page is written to disk before its frame gets another one.
func TestChangedIsWrittenBack(t *testing.T) {
	x := begin(t, sampleStore(), 0)
	x = do(t, x, write(0, 1, 0, "new"), read(0, 1, 64, 1))
	disk := sampleStore()
	disk.Segments[0].Bytes = "new" + disk.Segments[0].Bytes[3:]
	want := api.Paging{Disk: disk, Frames: []api.PageFrame{clean(0, 1, 2, 2, api.None)}, Heads: []int{-1, -1, -1, -1, 0}, Time: 2, Reads: 2, Written: 1}
	if !same(x, want) {
		t.Errorf("%v, not %v", x, want)
	}
	if _, bytes, e := paging.Accessed(x, read(0, 1, 0, 4)); bytes != "new." || e != api.OK {
		t.Errorf("read again: %q, %v", bytes, e)
	}
}

// P5.3: a force writes the pages of one segment.
func TestForceOfOneSegment(t *testing.T) {
	x := do(t, begin(t, sampleStore(), 0, 0, 0), write(0, 4, 0, "four"), write(0, 1, 32, "one"), read(0, 3, 0, 1))
	after := do(t, x, force(1))
	if after.Written != 1 || after.Time != 3 || after.Frames[1].Changed || !after.Frames[0].Changed || after.Disk.Segments[0].Bytes[32:35] != "one" || after.Disk.Segments[2] != seg(4, 1) {
		t.Errorf("%v", after)
	}
}

// P5.3: what is wrong with accesses to the sample; here no frame is of pool 2.
func TestAccessErrors(t *testing.T) {
	x := with(func(x *api.Paging) { x.Frames[3].Pool = 0 })
	for _, c := range []struct {
		a api.PageAccess
		e api.Errno
	}{
		{api.PageAccess{Kind: -1}, api.ErrKind}, {api.PageAccess{Kind: 4}, api.ErrKind}, {api.PageAccess{Kind: math.MaxInt, Pool: 9, Length: 1}, api.ErrKind}, {api.PageAccess{Kind: math.MinInt}, api.ErrKind},
		{api.PageAccess{Kind: api.PageRead, Bytes: "x"}, api.ErrForm}, {api.PageAccess{Kind: api.PageRead, Pool: 9, Address: api.Address{Segment: 1}, Bytes: "x"}, api.ErrForm},
		{api.PageAccess{Kind: api.PageWrite, Length: 1}, api.ErrForm}, {api.PageAccess{Kind: api.PageWrite, Address: api.Address{Segment: 1}, Length: -1, Bytes: "x"}, api.ErrForm}, {api.PageAccess{Kind: api.PageWrite, Pool: -1, Length: 1}, api.ErrForm},
		{api.PageAccess{Kind: api.PageForce, Pool: 1, Address: api.Address{Segment: 3}}, api.ErrForm}, {api.PageAccess{Kind: api.PageForce, Address: api.Address{Segment: 3, Offset: 1}}, api.ErrForm}, {api.PageAccess{Kind: api.PageForce, Address: api.Address{Segment: 3}, Length: 1}, api.ErrForm}, {api.PageAccess{Kind: api.PageForce, Address: api.Address{Segment: 2}, Bytes: "x"}, api.ErrForm},
		{api.PageAccess{Kind: api.PageFlush, Pool: 1}, api.ErrForm}, {api.PageAccess{Kind: api.PageFlush, Address: api.Address{Segment: 3}}, api.ErrForm}, {api.PageAccess{Kind: api.PageFlush, Address: api.Address{Offset: 1}}, api.ErrForm}, {api.PageAccess{Kind: api.PageFlush, Length: 1}, api.ErrForm}, {api.PageAccess{Kind: api.PageFlush, Bytes: "x"}, api.ErrForm},
		{read(-1, 1, 0, 1), api.ErrRange}, {read(3, 2, 0, 1), api.ErrRange}, {write(3, 9, 0, "x"), api.ErrRange}, {write(math.MinInt, 1, 0, "x"), api.ErrRange}, {read(math.MaxInt, 1, 0, 0), api.ErrRange},
		{read(0, 2, 0, 1), api.ErrDestroyed}, {read(2, 5, -1, 1), api.ErrDestroyed}, {write(0, 2, 0, ""), api.ErrDestroyed}, {write(2, 5, 99, "x"), api.ErrDestroyed},
		{read(0, 6, 0, 1), api.ErrMissing}, {read(2, 0, -1, 0), api.ErrMissing}, {write(0, -1, 0, "x"), api.ErrMissing}, {write(2, math.MaxInt, 0, ""), api.ErrMissing},
		{read(0, 1, -1, 1), api.ErrRange}, {read(0, 1, 97, 0), api.ErrRange}, {read(0, 1, 96, 1), api.ErrRange}, {read(0, 1, 0, 97), api.ErrRange}, {read(2, 1, 0, -1), api.ErrRange}, {read(0, 1, 1, math.MaxInt), api.ErrRange}, {read(2, 1, math.MaxInt, 1), api.ErrRange}, {read(0, 1, 5, math.MinInt), api.ErrRange},
		{write(0, 1, -1, ""), api.ErrRange}, {write(0, 1, 97, ""), api.ErrRange}, {write(0, 1, 96, "x"), api.ErrRange}, {write(2, 4, 0, strings.Repeat("x", 33)), api.ErrRange}, {write(0, 4, 31, "xy"), api.ErrRange},
		{read(2, 1, 0, 1), api.ErrNone}, {read(2, 1, 0, 0), api.ErrNone}, {read(2, 1, 96, 0), api.ErrNone}, {read(2, 1, 32, 5), api.ErrNone}, {write(2, 1, 0, ""), api.ErrNone}, {write(2, 3, 32, "x"), api.ErrNone},
		{force(2), api.ErrDestroyed}, {force(5), api.ErrDestroyed}, {force(6), api.ErrMissing}, {force(0), api.ErrMissing}, {force(-1), api.ErrMissing}, {force(math.MaxInt), api.ErrMissing},
	} {
		after, bytes, e := paging.Accessed(x, c.a)
		nothing(t, "Accessed", after, len(bytes), e, c.e)
		after, all, n, e := paging.Run(x, []api.PageAccess{read(0, 1, 0, 1), flush, c.a, {Kind: -1}})
		nothing(t, "Run", after, len(all)+n-2, e, c.e)
	}
}

// P5.3: counts grow up to MaxNumber, and no further.
func TestFull(t *testing.T) {
	for _, c := range []struct {
		a                    api.PageAccess
		time, reads, written int
	}{
		{read(0, 1, 0, 1), 1, 0, 0}, {read(0, 1, 0, 33), 2, 1, 0}, {read(0, 1, 33, 64-1), 2, 2, 0}, {read(0, 3, 0, 256), 8, 5, 0}, {read(0, 3, 128, 1), 1, 0, 0},
		{write(1, 3, 256-96, strings.Repeat("x", 96)), 3, 2, 1}, {write(0, 3, 130, "x"), 1, 0, 0}, {write(0, 3, 0, ""), 0, 0, 0}, {force(3), 0, 0, 2}, {force(1), 0, 0, 0}, {flush, 0, 0, 2},
	} {
		for _, less := range [][3]int{{0, 0, 0}, {1, 0, 0}, {0, 1, 0}, {0, 0, 1}} {
			x := sample()
			x.Time, x.Reads, x.Written = api.MaxNumber-c.time+less[0], api.MaxNumber-c.reads+less[1], api.MaxNumber-c.written+less[2]
			if max(x.Time, x.Reads, x.Written) > api.MaxNumber {
				continue // no such memory
			}
			after, bytes, e := paging.Accessed(x, c.a)
			if less != [3]int{} {
				nothing(t, "Accessed", after, len(bytes), e, api.ErrFull)
				_, _, n, e := paging.Run(x, []api.PageAccess{c.a})
				nothing(t, "Run", api.Paging{}, n, e, api.ErrFull)
			} else if after.Time != api.MaxNumber || after.Reads != api.MaxNumber || after.Written != api.MaxNumber || e != api.OK {
				t.Errorf("%v: %v, %v", c.a, after, e)
			}
		}
	}
}

// P5.3: lists of accesses.
func TestRun(t *testing.T) {
	x := begin(t, sampleStore(), 0, 1)
	after, all, n, e := paging.Run(x, []api.PageAccess{write(0, 1, 30, "abcd"), read(1, 1, 28, 8), flush, read(0, 4, 0, 0), force(4), read(0, 4, 0, 2)})
	if !slices.Equal(all, []string{"", "10abcd:.", "", "", "", "40"}) || n != 6 || e != api.OK || after.Time != 5 || after.Reads != 4 || after.Written != 2 {
		t.Errorf("Run: %v, %q, %d, %v", after, all, n, e)
	}
	if after, all, n, e := paging.Run(sample(), nil); !same(after, sample()) || len(all) != 0 || n != 0 || e != api.OK {
		t.Errorf("Run of nothing: %v, %q, %d, %v", after, all, n, e)
	}
	if after, all, n, e := paging.Run(sample(), slices.Repeat([]api.PageAccess{read(0, 1, 0, 1)}, 40)); after.Time != 49 || !slices.Equal(all, slices.Repeat([]string{"1"}, 40)) || n != 40 || e != api.OK {
		t.Errorf("Run of 40: %v, %q, %d, %v", after, all, n, e)
	}
	for _, a := range []api.PageAccess{read(0, 1, 0, 1), {Kind: -1}} {
		after, all, n, e := paging.Run(sample(), slices.Repeat([]api.PageAccess{a}, 41))
		nothing(t, "Run of 41", after, len(all)+n, e, api.ErrLarge)
	}
}

// P5.4: the store of the sample, and its changed pages.
func TestStoreOf(t *testing.T) {
	want := sampleStore()
	want.Segments[1].Bytes = want.Segments[1].Bytes[:4*32] + upper(3, 4) + pageText(3, 5) + upper(3, 6) + pageText(3, 7)
	if s, e := paging.StoreOf(sample()); !sameStore(s, want) || e != api.OK {
		t.Errorf("StoreOf: %v, %v", s, e)
	}
	x := begin(t, sampleStore(), 0, 1, 2)
	if s, e := paging.StoreOf(x); !sameStore(s, sampleStore()) || e != api.OK {
		t.Errorf("StoreOf at the beginning: %v, %v", s, e)
	}
	full := with(func(x *api.Paging) { x.Written = api.MaxNumber })
	if s, e := paging.StoreOf(full); !sameStore(s, want) || e != api.OK {
		t.Errorf("StoreOf when nothing more can be written: %v, %v", s, e)
	}
}

// P5.4: changed pages ascend, in whichever frames they are.
func TestChangedIn(t *testing.T) {
	if l, e := paging.ChangedIn(sample()); !slices.Equal(l, []api.Address{{Segment: 3, Offset: 128}, {Segment: 3, Offset: 192}}) || e != api.OK {
		t.Errorf("ChangedIn: %v, %v", l, e)
	}
	x := begin(t, sampleStore(), 0, 0, 0, 0, 0, 0)
	if l, e := paging.ChangedIn(x); len(l) != 0 || e != api.OK {
		t.Errorf("ChangedIn at the beginning: %v, %v", l, e)
	}
	x = do(t, x, write(0, 4, 3, "x"), write(0, 3, 255, "x"), write(0, 1, 64, "x"), read(0, 3, 64, 1), write(0, 3, 0, "3"), write(0, 1, 31, ":"))
	if l, e := paging.ChangedIn(x); !slices.Equal(l, []api.Address{{Segment: 1, Offset: 0}, {Segment: 1, Offset: 64}, {Segment: 3, Offset: 0}, {Segment: 3, Offset: 224}, {Segment: 4, Offset: 0}}) || e != api.OK {
		t.Errorf("ChangedIn: %v, %v", l, e)
	}
}

// Examples 1 and 2.
func TestExamples(t *testing.T) {
	begun := begin(t, api.Store{Segments: []api.Segment{seg(1, 3)}, Next: 2}, 0, 0)
	x := do(t, begun, read(0, 1, 0, 1), read(0, 1, 32, 1), read(0, 1, 64, 1))
	if frame, _, e := paging.FrameOf(x, 1, 2); frame != 0 || e != api.OK || x.Reads != 3 || x.Written != 0 {
		t.Errorf("example 1: %d, %v, %v", frame, e, x)
	}
	x = do(t, begun, write(0, 1, 0, "1"), read(0, 1, 32, 1), read(0, 1, 64, 1))
	if frame, _, e := paging.FrameOf(x, 1, 2); frame != 1 || e != api.OK || x.Reads != 3 || x.Written != 0 {
		t.Errorf("example 2: %d, %v, %v", frame, e, x)
	}
}
