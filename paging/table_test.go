package paging_test

import (
	"math"
	"slices"
	"testing"

	"midrange/api"
	"midrange/paging"
)

// P5.2: the chains of a memory.
func TestChainOf(t *testing.T) {
	for chain, want := range [][]int{{2}, nil, {0, 3, 4}, {5}, nil} {
		if l, e := paging.ChainOf(sample(), chain); !slices.Equal(l, want) || e != api.OK {
			t.Errorf("ChainOf(%d): %v, %v, not %v", chain, l, e, want)
		}
	}
	for _, chain := range []int{-1, 5, math.MinInt, math.MaxInt} {
		if l, e := paging.ChainOf(sample(), chain); len(l) != 0 || e != api.ErrRange {
			t.Errorf("ChainOf(%d): %v, %v", chain, l, e)
		}
	}
}

// P5.2: the frames of pages, and how many are asked.
func TestFrameOf(t *testing.T) {
	for _, x := range []struct {
		segment, page, frame, asked int
		e                           api.Errno
	}{
		{1, 0, 0, 1, api.OK}, {3, 1, 3, 2, api.OK}, {3, 6, 4, 3, api.OK}, {3, 4, 2, 1, api.OK}, {4, 0, 5, 1, api.OK},
		{1, 1, 0, 0, api.ErrNone}, {1, 2, 0, 0, api.ErrNone}, {3, 0, 0, 0, api.ErrNone}, {3, 2, 0, 0, api.ErrNone}, {3, 7, 0, 0, api.ErrNone},
		{1, 3, 0, 0, api.ErrMissing}, {1, -1, 0, 0, api.ErrMissing}, {3, 8, 0, 0, api.ErrMissing}, {4, 1, 0, 0, api.ErrMissing}, {2, 0, 0, 0, api.ErrMissing}, {5, 0, 0, 0, api.ErrMissing}, {6, 0, 0, 0, api.ErrMissing}, {0, 0, 0, 0, api.ErrMissing}, {-1, 0, 0, 0, api.ErrMissing},
		{1, math.MaxInt, 0, 0, api.ErrMissing}, {1, math.MinInt, 0, 0, api.ErrMissing}, {1, 1 << 59, 0, 0, api.ErrMissing}, {math.MaxInt, 0, 0, 0, api.ErrMissing}, {math.MinInt, math.MinInt, 0, 0, api.ErrMissing},
	} {
		if frame, asked, e := paging.FrameOf(sample(), x.segment, x.page); frame != x.frame || asked != x.asked || e != x.e {
			t.Errorf("FrameOf(%d, %d): %d, %d, %v, not %d, %d, %v", x.segment, x.page, frame, asked, e, x.frame, x.asked, x.e)
		}
	}
}

// P5.2: a page is read into a frame that is not used, or into the one whose page is not changed, was used first, and has the least index.
func TestVictimOf(t *testing.T) {
	two := func(x *api.Paging) { x.Frames[0].Pool, x.Frames[2].Pool, x.Frames[5].Pool = 2, 2, 2 }
	for i, x := range []struct {
		x     api.Paging
		pool  int
		frame int
		e     api.Errno
	}{
		{sample(), 0, 0, api.OK}, {sample(), 1, 1, api.OK}, {sample(), 2, 3, api.OK},
		{with(func(x *api.Paging) { x.Frames[0].Last = 6 }), 0, 5, api.OK},
		{with(func(x *api.Paging) { x.Frames[0].Last, x.Frames[2].Last = 6, 1 }), 0, 5, api.OK},
		{with(func(x *api.Paging) { x.Frames[0].Changed = true }), 0, 5, api.OK},
		{with(func(x *api.Paging) { x.Frames[0].Changed, x.Frames[5].Changed = true, true }), 0, 0, api.OK},
		{with(func(x *api.Paging) { x.Frames[0].Changed, x.Frames[5].Changed, x.Frames[2].Last = true, true, 4 }), 0, 2, api.OK},
		{with(func(x *api.Paging) { x.Frames[0].Changed, x.Frames[5].Changed, x.Frames[2].Last = true, true, 5 }), 0, 0, api.OK},
		{with(func(x *api.Paging) { x.Frames[1].Pool = 2 }), 2, 1, api.OK},
		{with(func(x *api.Paging) { x.Frames[1].Pool = 2 }), 1, 4, api.OK},
		{with(func(x *api.Paging) { x.Frames = append(x.Frames, empty(0), empty(0)) }), 0, 6, api.OK},
		{with(two), 2, 3, api.OK}, {with(two), 0, 0, api.ErrNone},
		{begin(t, sampleStore(), 1, 0, 1, 0), 0, 1, api.OK}, {begin(t, sampleStore(), 1, 0, 1, 0), 1, 0, api.OK}, {begin(t, sampleStore(), 1, 0, 1, 0), 2, 0, api.ErrNone},
		{sample(), -1, 0, api.ErrRange}, {sample(), 3, 0, api.ErrRange}, {sample(), math.MaxInt, 0, api.ErrRange}, {sample(), math.MinInt, 0, api.ErrRange},
	} {
		if frame, e := paging.VictimOf(x.x, x.pool); frame != x.frame || e != x.e {
			t.Errorf("%d: VictimOf(%d): %d, %v, not %d, %v", i, x.pool, frame, e, x.frame, x.e)
		}
	}
}

// Example 3: the numbers of chains.
func TestChainsOfPages(t *testing.T) {
	disk := api.Store{Segments: []api.Segment{seg(1, 4), seg(999, 1), seg(1000, 8)}, Next: 1001}
	for _, x := range []struct{ segment, page, chain int }{{1, 0, 2}, {1, 3, 0}, {1, 1, 3}, {1, 2, 4}, {999, 0, 3}, {1000, 0, 0}, {1000, 7, 2}} {
		after := do(t, begin(t, disk, 0), read(0, x.segment, 32*x.page, 1))
		for chain := range 5 {
			l, e := paging.ChainOf(after, chain)
			if (len(l) == 1) != (chain == x.chain) || e != api.OK {
				t.Errorf("page %d of %d: the chain %d is %v, %v", x.page, x.segment, chain, l, e)
			}
		}
	}
}

// Edge case: of pages with one chain the one that was loaded last is the first one.
func TestLastLoadedIsFirst(t *testing.T) {
	x := begin(t, sampleStore(), 0, 0, 0, 0)
	x = do(t, x, read(0, 1, 0, 1), read(0, 3, 32, 1), read(0, 3, 6*32, 1), read(0, 1, 0, 1))
	if l, e := paging.ChainOf(x, 2); !slices.Equal(l, []int{2, 1, 0}) || e != api.OK {
		t.Errorf("ChainOf: %v, %v", l, e)
	}
}
