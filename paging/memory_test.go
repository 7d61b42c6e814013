package paging_test

import (
	"fmt"
	"math"
	"slices"
	"strings"
	"testing"

	"midrange/api"
	"midrange/paging"
)

// pageText returns bytes that tell which page they are of, up to the last digit of its segment.
func pageText(segment, page int) string {
	return strings.Repeat(fmt.Sprintf("%d%d:.", segment%10, page), 8)
}

func seg(number, pages int) api.Segment {
	text := ""
	for page := range pages {
		text += pageText(number, page)
	}
	return api.Segment{Number: number, Bytes: text}
}

// sampleStore has live segments 1, 3 and 4; 2 and 5 are destroyed.
func sampleStore() api.Store {
	return api.Store{Segments: []api.Segment{seg(1, 3), seg(3, 8), seg(4, 1)}, Next: 6}
}

func empty(pool int) api.PageFrame {
	return api.PageFrame{Pool: pool, Next: api.None}
}

// clean returns a frame with a page as it is on disk.
func clean(pool, segment, page, last, next int) api.PageFrame {
	return api.PageFrame{Pool: pool, Used: true, Segment: segment, Page: page, Bytes: pageText(segment, page), Last: last, Next: next}
}

func changed(pool, segment, page, last, next int) api.PageFrame {
	f := clean(pool, segment, page, last, next)
	f.Changed = true
	f.Bytes = strings.ToUpper(strings.ReplaceAll(f.Bytes, ":", "x"))
	return f
}

// sample has a chain of three frames, a frame that is not used, and all pools.
func sample() api.Paging {
	return api.Paging{
		Disk: sampleStore(),
		Frames: []api.PageFrame{
			clean(0, 1, 0, 5, 3), empty(1), changed(0, 3, 4, 7, api.None), clean(2, 3, 1, 2, 4), changed(1, 3, 6, 9, api.None), clean(0, 4, 0, 5, api.None),
		},
		Heads: []int{2, api.None, 0, 5, api.None},
		Time:  9, Reads: 20, Written: 3,
	}
}

func begin(t *testing.T, disk api.Store, pools ...int) api.Paging {
	t.Helper()
	x, e := paging.Begin(disk, pools)
	if e != api.OK {
		t.Fatalf("Begin(%v): %v", pools, e)
	}
	return x
}

func same(a, b api.Paging) bool {
	return sameStore(a.Disk, b.Disk) && slices.Equal(a.Frames, b.Frames) && slices.Equal(a.Heads, b.Heads) && a.Time == b.Time && a.Reads == b.Reads && a.Written == b.Written
}

func sameStore(a, b api.Store) bool {
	return a.Next == b.Next && slices.Equal(a.Segments, b.Segments)
}

func isNothing(x api.Paging) bool {
	return same(x, api.Paging{})
}

func copyOf(x api.Paging) api.Paging {
	x.Disk.Segments = slices.Clone(x.Disk.Segments)
	x.Frames = slices.Clone(x.Frames)
	x.Heads = slices.Clone(x.Heads)
	return x
}

// with returns the sample after a change.
func with(change func(*api.Paging)) api.Paging {
	x := sample()
	change(&x)
	return x
}

// P5.1: right memories.
func TestRightMemories(t *testing.T) {
	for i, x := range []api.Paging{
		sample(),
		begin(t, sampleStore(), 0), begin(t, api.Store{Next: 1}, 2), begin(t, api.Store{Next: 1001}, 0, 1, 2, 2, 1, 0, 0, 0),
		with(func(x *api.Paging) { x.Reads, x.Written = 0, 0 }),
		with(func(x *api.Paging) {
			x.Time, x.Reads, x.Written = api.MaxNumber, api.MaxNumber, api.MaxNumber
			x.Frames[0].Last = api.MaxNumber
		}),
		with(func(x *api.Paging) { x.Frames[0].Last, x.Frames[2].Last, x.Frames[3].Last = 9, 9, 1 }),
		with(func(x *api.Paging) { x.Frames[2].Bytes = pageText(3, 4) }),
		with(func(x *api.Paging) { x.Frames[2].Bytes = strings.Repeat("\x00", 32) }),
		with(func(x *api.Paging) { x.Frames[3], x.Heads[2], x.Frames[0].Next = changed(2, 3, 1, 2, 0), 3, 4 }),
		with(func(x *api.Paging) {
			x.Frames[0].Next, x.Frames[3].Next, x.Frames[4].Next, x.Heads[2] = api.None, 0, 3, 4
		}),
		with(func(x *api.Paging) { x.Frames[1], x.Heads[1] = clean(1, 3, 0, 1, api.None), 1 }),
		with(func(x *api.Paging) { x.Frames[1], x.Heads[3] = clean(1, 1, 1, 1, 5), 1 }),
	} {
		if e := paging.CheckPaging(x); e != api.OK {
			t.Errorf("memory %d: %v", i, e)
		}
	}
}

// change is a change of the sample, and the error of the memory after it.
type change struct {
	to func(*api.Paging)
	e  api.Errno
}

// changesOfFrames are what can be wrong with the frame 3, in the order in which it is checked.
var changesOfFrames = []change{
	{func(x *api.Paging) { x.Frames[3].Pool = 3 }, api.ErrRange},
	{func(x *api.Paging) { x.Frames[3].Page = 8 }, api.ErrMissing},
	{func(x *api.Paging) { x.Frames[3].Bytes = pageText(3, 1)[1:] }, api.ErrLength},
	{func(x *api.Paging) { x.Frames[3].Segment, x.Frames[3].Page = 1, 0 }, api.ErrDouble},
	{func(x *api.Paging) { x.Frames[3].Last = 10 }, api.ErrRange},
	{func(x *api.Paging) { x.Frames[3].Bytes = "x" + pageText(3, 1)[1:] }, api.ErrClash},
}

// changesInOrder are of all kinds, in the order in which they are checked.
var changesInOrder = slices.Concat([]change{
	{func(x *api.Paging) { x.Disk.Segments = make([]api.Segment, 11) }, api.ErrLarge},
	{func(x *api.Paging) { x.Disk.Next = 1002 }, api.ErrRange},
	{func(x *api.Paging) { x.Disk.Segments[1].Number = 1 }, api.ErrOrder},
	{func(x *api.Paging) { x.Disk.Segments[2].Bytes += "x" }, api.ErrLength},
	{func(x *api.Paging) { x.Heads = x.Heads[:4] }, api.ErrShape},
	{func(x *api.Paging) { x.Reads = -1 }, api.ErrRange},
	{func(x *api.Paging) { x.Frames[0].Bytes = pageText(1, 1) }, api.ErrClash},
	{func(x *api.Paging) { x.Frames[1].Last = 1 }, api.ErrForm},
}, changesOfFrames, []change{
	{func(x *api.Paging) { x.Frames[4].Pool = -1 }, api.ErrRange},
	{func(x *api.Paging) { x.Frames[5].Segment = 5 }, api.ErrMissing},
	{func(x *api.Paging) { x.Heads[1] = 2 }, api.ErrBroken},
})

// wrongInOneWay are memories with one error each.
var wrongInOneWay = slices.Concat(changesInOrder, []change{
	{func(x *api.Paging) { *x = api.Paging{} }, api.ErrRange},
	{func(x *api.Paging) { x.Frames, x.Heads = nil, slices.Repeat([]int{api.None}, 5) }, api.ErrShape},
	{func(x *api.Paging) { x.Frames = append(x.Frames, empty(0), empty(0), empty(0)) }, api.ErrShape},
	{func(x *api.Paging) { x.Heads = nil }, api.ErrShape},
	{func(x *api.Paging) { x.Heads = append(x.Heads, api.None) }, api.ErrShape},
	{func(x *api.Paging) { x.Time = -1 }, api.ErrRange},
	{func(x *api.Paging) { x.Time = api.MaxNumber + 1 }, api.ErrRange},
	{func(x *api.Paging) { x.Reads = api.MaxNumber + 1 }, api.ErrRange},
	{func(x *api.Paging) { x.Written = -1 }, api.ErrRange},
	{func(x *api.Paging) { x.Written = api.MaxNumber + 1 }, api.ErrRange},
	{func(x *api.Paging) { x.Frames[1].Pool = -1 }, api.ErrRange},
	{func(x *api.Paging) { x.Frames[1].Pool = 3 }, api.ErrRange},
	{func(x *api.Paging) { x.Frames[1] = api.PageFrame{Pool: 3} }, api.ErrRange},
	{func(x *api.Paging) { x.Frames[1].Changed = true }, api.ErrForm},
	{func(x *api.Paging) { x.Frames[1].Segment = 3 }, api.ErrForm},
	{func(x *api.Paging) { x.Frames[1].Page = 1 }, api.ErrForm},
	{func(x *api.Paging) { x.Frames[1].Last = -1 }, api.ErrForm},
	{func(x *api.Paging) { x.Frames[1].Bytes = pageText(3, 0) }, api.ErrForm},
	{func(x *api.Paging) { x.Frames[1].Next = 0 }, api.ErrForm},
	{func(x *api.Paging) { x.Frames[1].Next = 3 }, api.ErrForm},
	{func(x *api.Paging) { x.Frames[4].Used = false }, api.ErrForm},
	{func(x *api.Paging) { x.Frames[1].Used = true }, api.ErrMissing},
	{func(x *api.Paging) { x.Frames[3].Segment = 2 }, api.ErrMissing},
	{func(x *api.Paging) { x.Frames[3].Segment = 6 }, api.ErrMissing},
	{func(x *api.Paging) { x.Frames[3].Segment = -1 }, api.ErrMissing},
	{func(x *api.Paging) { x.Frames[3].Segment = math.MaxInt }, api.ErrMissing},
	{func(x *api.Paging) { x.Frames[5].Page = 1 }, api.ErrMissing},
	{func(x *api.Paging) { x.Frames[3].Page = -1 }, api.ErrMissing},
	{func(x *api.Paging) { x.Frames[3].Page = math.MinInt }, api.ErrMissing},
	{func(x *api.Paging) { x.Frames[3].Page = 1 << 59 }, api.ErrMissing},
	{func(x *api.Paging) { x.Frames[0].Page = 3 }, api.ErrMissing},
	{func(x *api.Paging) { x.Frames[3].Bytes = "" }, api.ErrLength},
	{func(x *api.Paging) { x.Frames[4].Bytes += "x" }, api.ErrLength},
	{func(x *api.Paging) { x.Frames[4].Bytes += x.Frames[4].Bytes }, api.ErrLength},
	{func(x *api.Paging) { x.Frames[2] = changed(0, 1, 0, 7, api.None) }, api.ErrDouble},
	{func(x *api.Paging) { x.Frames[4] = changed(1, 3, 4, 9, api.None) }, api.ErrDouble},
	{func(x *api.Paging) { x.Frames[5] = clean(0, 3, 1, 5, api.None) }, api.ErrDouble},
	{func(x *api.Paging) { x.Frames[0].Last = 0 }, api.ErrRange},
	{func(x *api.Paging) { x.Frames[4].Last = -5 }, api.ErrRange},
	{func(x *api.Paging) { x.Time = 8 }, api.ErrRange},
	{func(x *api.Paging) { x.Time = 0 }, api.ErrRange},
	{func(x *api.Paging) { x.Frames[2].Changed = false }, api.ErrClash},
	{func(x *api.Paging) {
		x.Disk.Segments[0].Bytes = strings.Replace(x.Disk.Segments[0].Bytes, "10:.1", "10:.2", 1)
	}, api.ErrClash},
	{func(x *api.Paging) { x.Heads[0] = api.None }, api.ErrBroken},
	{func(x *api.Paging) { x.Heads[4] = 0 }, api.ErrBroken},
	{func(x *api.Paging) { x.Heads[4] = 1 }, api.ErrBroken},
	{func(x *api.Paging) { x.Heads[4] = -2 }, api.ErrBroken},
	{func(x *api.Paging) { x.Heads[4] = 6 }, api.ErrBroken},
	{func(x *api.Paging) { x.Heads[4] = math.MaxInt }, api.ErrBroken},
	{func(x *api.Paging) { x.Heads[4] = math.MinInt }, api.ErrBroken},
	{func(x *api.Paging) { x.Heads[2] = 3 }, api.ErrBroken},
	{func(x *api.Paging) { x.Heads[0], x.Heads[3] = 5, 2 }, api.ErrBroken},
	{func(x *api.Paging) { x.Frames[0].Next = 4 }, api.ErrBroken},
	{func(x *api.Paging) { x.Frames[0].Next = 0 }, api.ErrBroken},
	{func(x *api.Paging) { x.Frames[0].Next = api.None }, api.ErrBroken},
	{func(x *api.Paging) { x.Frames[4].Next = 0 }, api.ErrBroken},
	{func(x *api.Paging) { x.Frames[4].Next = 1 }, api.ErrBroken},
	{func(x *api.Paging) { x.Frames[4].Next = 5 }, api.ErrBroken},
	{func(x *api.Paging) { x.Frames[4].Next = 6 }, api.ErrBroken},
	{func(x *api.Paging) { x.Frames[4].Next = -2 }, api.ErrBroken},
	{func(x *api.Paging) { x.Frames[2].Next = 5 }, api.ErrBroken},
	{func(x *api.Paging) { x.Frames[5].Next = 5 }, api.ErrBroken},
	{func(x *api.Paging) { x.Frames[1] = clean(1, 3, 0, 1, api.None) }, api.ErrBroken},
	{func(x *api.Paging) { x.Frames[1], x.Heads[2] = clean(1, 3, 0, 1, 0), 1 }, api.ErrBroken},
})

// P5.1: memories that are wrong in one way.
func TestWrongMemories(t *testing.T) {
	for i, c := range wrongInOneWay {
		if e := paging.CheckPaging(with(c.to)); e != c.e {
			t.Errorf("change %d: %v, not %v", i, e, c.e)
		}
	}
}

// P5.1: of two errors the one that is checked first is returned.
func TestFirstErrorOfMemories(t *testing.T) {
	for i, first := range changesInOrder {
		for j, second := range changesInOrder[i+1:] {
			x := with(func(x *api.Paging) {
				second.to(x)
				first.to(x)
			})
			if e := paging.CheckPaging(x); e != first.e {
				t.Errorf("changes %d and %d: %v, not %v", i, i+1+j, e, first.e)
			}
		}
	}
}

// P5.1: memories that begin.
func TestBegin(t *testing.T) {
	for _, pools := range [][]int{{0}, {2}, {1, 0}, {0, 0, 0}, {2, 1, 0, 0, 1, 2, 1, 2}} {
		for _, disk := range []api.Store{sampleStore(), {Next: 1}, {Next: 1001}} {
			want := api.Paging{Disk: disk, Heads: []int{-1, -1, -1, -1, -1}}
			for _, pool := range pools {
				want.Frames = append(want.Frames, api.PageFrame{Pool: pool, Next: -1})
			}
			if x, e := paging.Begin(disk, pools); !same(x, want) || e != api.OK || paging.CheckPaging(x) != api.OK {
				t.Errorf("Begin(%v): %v, %v", pools, x, e)
			}
		}
	}
}

// P5.1: memories that cannot begin.
func TestBeginErrors(t *testing.T) {
	wrong := sampleStore()
	wrong.Segments[1].Bytes = "x"
	for _, x := range []struct {
		disk  api.Store
		pools []int
		e     api.Errno
	}{
		{api.Store{}, []int{0}, api.ErrRange}, {wrong, []int{0}, api.ErrLength}, {wrong, nil, api.ErrLength}, {wrong, []int{9}, api.ErrLength}, {api.Store{Segments: make([]api.Segment, 11)}, nil, api.ErrLarge},
		{sampleStore(), nil, api.ErrShape}, {sampleStore(), []int{}, api.ErrShape}, {sampleStore(), make([]int, 9), api.ErrShape}, {sampleStore(), slices.Repeat([]int{7}, 9), api.ErrShape},
		{sampleStore(), []int{3}, api.ErrRange}, {sampleStore(), []int{-1}, api.ErrRange}, {sampleStore(), []int{0, 1, 2, 3}, api.ErrRange}, {sampleStore(), []int{0, 0, 0, 0, 0, 0, 0, math.MinInt}, api.ErrRange}, {sampleStore(), []int{math.MaxInt, 0}, api.ErrRange},
	} {
		if got, e := paging.Begin(x.disk, x.pools); !isNothing(got) || e != x.e {
			t.Errorf("Begin(%v, %v): %v, %v, not %v", x.disk, x.pools, got, e, x.e)
		}
	}
}

// P5.2 to P5.4: the error of the memory comes before all others.
func TestErrorsOfMemories(t *testing.T) {
	for _, c := range wrongInOneWay {
		for _, n := range []int{-1, 0, 9} {
			memoryComesFirst(t, with(c.to), n, c.e)
		}
	}
}

// memoryComesFirst calls the functions with a wrong memory and a number that is right for some memories, or wrong.
func memoryComesFirst(t *testing.T, x api.Paging, n int, want api.Errno) {
	t.Helper()
	chain, e := paging.ChainOf(x, n)
	nothing(t, "ChainOf", api.Paging{}, len(chain), e, want)
	frame, asked, e := paging.FrameOf(x, n, n)
	nothing(t, "FrameOf", api.Paging{}, max(frame, -frame, asked, -asked), e, want)
	frame, e = paging.VictimOf(x, n)
	nothing(t, "VictimOf", api.Paging{}, frame, e, want)
	for _, a := range []api.PageAccess{{Kind: n}, {Kind: api.PageFlush, Length: n}, {Kind: api.PageRead, Pool: n, Address: api.Address{Segment: 1}}} {
		after, bytes, e := paging.Accessed(x, a)
		nothing(t, "Accessed", after, len(bytes), e, want)
		after, all, done, e := paging.Run(x, slices.Repeat([]api.PageAccess{a}, 1+n*n))
		nothing(t, "Run", after, len(all)+done, e, want)
	}
	after, all, done, e := paging.Run(x, nil)
	nothing(t, "Run", after, len(all)+done, e, want)
	s, e := paging.StoreOf(x)
	nothing(t, "StoreOf", api.Paging{Disk: s}, 0, e, want)
	l, e := paging.ChangedIn(x)
	nothing(t, "ChangedIn", api.Paging{}, len(l), e, want)
}

func nothing(t *testing.T, call string, x api.Paging, n int, got, want api.Errno) {
	t.Helper()
	if !isNothing(x) || n != 0 || got != want {
		t.Errorf("%s: %v, %d, %v, not %v", call, x, n, got, want)
	}
}
