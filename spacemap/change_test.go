package spacemap_test

import (
	"math"
	"slices"
	"testing"

	"midrange/api"
	"midrange/spacemap"
)

func add(segment, page, count, unit, at int) api.MapEntry {
	return api.MapEntry{Kind: api.MapAdd, Extent: extent(segment, page, count, unit, at)}
}

func take(segment, page, count, unit, at int) api.MapEntry {
	return api.MapEntry{Kind: api.MapTake, Extent: extent(segment, page, count, unit, at)}
}

func commit() api.MapEntry {
	return api.MapEntry{Kind: api.MapCommit}
}

// isChange says what a call returned instead of a map and entries that it must return.
func isChange(t *testing.T, what string, got api.SpaceMap, l []api.MapEntry, e api.Errno, want api.SpaceMap, entries []api.MapEntry) {
	t.Helper()
	if !same(got, want) || !slices.Equal(l, entries) || e != api.OK {
		t.Fatalf("%s: %v, %v, %v, not %v, %v", what, got, l, e, want, entries)
	}
}

// P7.3: examples 1 and 2.
func TestExamples(t *testing.T) {
	units := []int{4, 3}
	first := mapOf(units, extent(1, 0, 2, 0, 0))
	m, l, e := spacemap.Placed(mapOf(units), 1, 2)
	isChange(t, "Placed", m, l, e, first, []api.MapEntry{add(1, 0, 2, 0, 0), commit()})
	second := mapOf(units, extent(1, 0, 2, 0, 0), extent(2, 0, 3, 1, 0), extent(2, 3, 1, 0, 2))
	m, l, e = spacemap.Placed(m, 2, 4)
	isChange(t, "Placed", m, l, e, second, []api.MapEntry{add(2, 0, 3, 1, 0), add(2, 3, 1, 0, 2), commit()})
	third := mapOf(units, extent(1, 0, 2, 0, 0), extent(2, 0, 3, 1, 0))
	m, l, e = spacemap.Taken(m, 2, 3)
	isChange(t, "Taken", m, l, e, third, []api.MapEntry{take(2, 3, 1, 0, 2), commit()})
}

// P7.3: where pages are placed.
func TestPlaced(t *testing.T) {
	for i, x := range []struct {
		m              api.SpaceMap
		segment, pages int
		want           api.SpaceMap
		l              []api.MapEntry
	}{
		// No pages: no entries, also of a segment that there is not, and where nothing is free.
		{two(), 1, 0, two(), nil}, {two(), 2, 0, two(), nil}, {full(), 1000, 0, full(), nil}, {mapOf([]int{0}), 1, 0, mapOf([]int{0}), nil}, {mapOf([]int{8}, extent(1, 0, 8, 0, 0)), 1, 0, mapOf([]int{8}, extent(1, 0, 8, 0, 0)), nil},
		// The least of several units; as many as are left.
		{mapOf([]int{0, 5, 5}), 9, 3, mapOf([]int{0, 5, 5}, extent(9, 0, 3, 1, 0)), []api.MapEntry{add(9, 0, 3, 1, 0), commit()}},
		{mapOf([]int{3, 9, 4}), 9, 8, mapOf([]int{3, 9, 4}, extent(9, 0, 8, 1, 0)), []api.MapEntry{add(9, 0, 8, 1, 0), commit()}},
		// The unit with the most free places at each step, which need not stand one behind the other.
		{two(), 2, 3, mapOf([]int{4, 6}, extent(1, 0, 2, 0, 0), extent(1, 2, 1, 1, 4), extent(2, 0, 1, 1, 0), extent(2, 1, 1, 0, 3), extent(2, 2, 1, 1, 5), extent(3, 0, 3, 1, 1), extent(1000, 0, 1, 0, 2)), []api.MapEntry{add(2, 0, 1, 1, 0), add(2, 1, 1, 0, 3), add(2, 2, 1, 1, 5), commit()}},
		{mapOf([]int{2, 7}, extent(1, 0, 1, 1, 1), extent(1, 1, 1, 1, 3)), 2, 7, mapOf([]int{2, 7}, extent(1, 0, 1, 1, 1), extent(1, 1, 1, 1, 3), extent(2, 0, 1, 1, 0), extent(2, 1, 1, 1, 2), extent(2, 2, 3, 1, 4), extent(2, 5, 2, 0, 0)), []api.MapEntry{add(2, 0, 1, 1, 0), add(2, 1, 1, 1, 2), add(2, 2, 3, 1, 4), add(2, 5, 2, 0, 0), commit()}},
		// The last extent is joined; the entry has the new pages alone.
		{mapOf([]int{9, 3}, extent(1, 0, 2, 0, 0)), 1, 6, mapOf([]int{9, 3}, extent(1, 0, 8, 0, 0)), []api.MapEntry{add(1, 2, 6, 0, 2), commit()}},
		{mapOf([]int{6, 1}, extent(5, 0, 1, 0, 1), extent(6, 0, 1, 0, 3)), 6, 3, mapOf([]int{6, 1}, extent(5, 0, 1, 0, 1), extent(6, 0, 1, 0, 3), extent(6, 1, 1, 0, 0), extent(6, 2, 1, 0, 2), extent(6, 3, 1, 0, 4)), []api.MapEntry{add(6, 1, 1, 0, 0), add(6, 2, 1, 0, 2), add(6, 3, 1, 0, 4), commit()}},
		// It stands behind the last place of another segment.
		{mapOf([]int{4}, extent(1, 0, 2, 0, 0)), 2, 2, mapOf([]int{4}, extent(1, 0, 2, 0, 0), extent(2, 0, 2, 0, 2)), []api.MapEntry{add(2, 0, 2, 0, 2), commit()}},
	} {
		m, l, e := spacemap.Placed(x.m, x.segment, x.pages)
		if !same(m, x.want) || !slices.Equal(l, x.l) || e != api.OK {
			t.Errorf("%d: %v, %v, %v, not %v, %v", i, m, l, e, x.want, x.l)
		}
	}
}

// P7.3: what cannot be placed.
func TestNotPlaced(t *testing.T) {
	six := mapOf([]int{7}, extent(1, 0, 6, 0, 0))
	for _, x := range []struct {
		m              api.SpaceMap
		segment, pages int
		want           api.Errno
	}{
		{two(), 0, 1, api.ErrRange}, {two(), -1, 0, api.ErrRange}, {two(), 1001, 1, api.ErrRange}, {two(), math.MaxInt, 1, api.ErrRange}, {two(), math.MinInt, 9, api.ErrRange},
		{two(), 1, -1, api.ErrRange}, {two(), 1, 9, api.ErrRange}, {full(), 1, math.MaxInt, api.ErrRange}, {full(), 7, math.MinInt, api.ErrRange},
		{two(), 1, 6, api.ErrLarge}, {two(), 3, 8, api.ErrLarge}, {full(), 7, 6, api.ErrLarge}, {six, 1, 3, api.ErrLarge}, {mapOf([]int{30}, extent(1, 0, 8, 0, 0)), 1, 1, api.ErrLarge},
		{two(), 1, 5, api.ErrFull}, {two(), 1, 4, api.ErrFull}, {two(), 2, 4, api.ErrFull}, {two(), 2, 8, api.ErrFull}, {full(), 7, 1, api.ErrFull}, {full(), 7, 5, api.ErrFull}, {six, 1, 2, api.ErrFull}, {mapOf([]int{0}), 1, 1, api.ErrFull},
	} {
		m, l, e := spacemap.Placed(x.m, x.segment, x.pages)
		isError(t, "Placed", m, len(l), e, x.want)
	}
}

// P7.3: what is taken away.
func TestTaken(t *testing.T) {
	long := mapOf([]int{3, 6}, extent(4, 0, 1, 0, 0), extent(5, 0, 2, 1, 4), extent(5, 2, 3, 1, 1), extent(5, 5, 2, 0, 1), extent(6, 0, 1, 1, 0))
	four, six := extent(4, 0, 1, 0, 0), extent(6, 0, 1, 1, 0)
	for i, x := range []struct {
		m             api.SpaceMap
		segment, keep int
		want          []api.MapExtent
		l             []api.MapEntry
	}{
		{long, 5, 7, long.Extents, nil}, {long, 1, 0, long.Extents, nil}, {long, 1000, 0, long.Extents, nil}, {long, 4, 1, long.Extents, nil},
		{long, 5, 6, []api.MapExtent{four, extent(5, 0, 2, 1, 4), extent(5, 2, 3, 1, 1), extent(5, 5, 1, 0, 1), six}, []api.MapEntry{take(5, 6, 1, 0, 2), commit()}},
		{long, 5, 5, []api.MapExtent{four, extent(5, 0, 2, 1, 4), extent(5, 2, 3, 1, 1), six}, []api.MapEntry{take(5, 5, 2, 0, 1), commit()}},
		{long, 5, 3, []api.MapExtent{four, extent(5, 0, 2, 1, 4), extent(5, 2, 1, 1, 1), six}, []api.MapEntry{take(5, 3, 2, 1, 2), take(5, 5, 2, 0, 1), commit()}},
		{long, 5, 2, []api.MapExtent{four, extent(5, 0, 2, 1, 4), six}, []api.MapEntry{take(5, 2, 3, 1, 1), take(5, 5, 2, 0, 1), commit()}},
		{long, 5, 1, []api.MapExtent{four, extent(5, 0, 1, 1, 4), six}, []api.MapEntry{take(5, 1, 1, 1, 5), take(5, 2, 3, 1, 1), take(5, 5, 2, 0, 1), commit()}},
		{long, 5, 0, []api.MapExtent{four, six}, []api.MapEntry{take(5, 0, 2, 1, 4), take(5, 2, 3, 1, 1), take(5, 5, 2, 0, 1), commit()}},
		{long, 4, 0, long.Extents[1:], []api.MapEntry{take(4, 0, 1, 0, 0), commit()}}, {long, 6, 0, long.Extents[:4], []api.MapEntry{take(6, 0, 1, 1, 0), commit()}},
	} {
		m, l, e := spacemap.Taken(x.m, x.segment, x.keep)
		if !same(m, mapOf(x.m.Units, x.want...)) || !slices.Equal(l, x.l) || e != api.OK {
			t.Errorf("%d: %v, %v, %v, not %v, %v", i, m, l, e, x.want, x.l)
		}
	}
	for _, x := range [][2]int{{0, 0}, {-1, 0}, {1001, 0}, {math.MinInt, 0}, {math.MaxInt, 0}, {5, 8}, {5, -1}, {5, math.MaxInt}, {5, math.MinInt}, {4, 2}, {6, 2}, {7, 1}, {1, -1}} {
		m, l, e := spacemap.Taken(long, x[0], x[1])
		isError(t, "Taken", m, len(l), e, api.ErrRange)
	}
}

// P7.4: pages that are moved.
func TestMoved(t *testing.T) {
	free := mapOf([]int{3, 4, 0}, extent(1, 0, 3, 1, 1), extent(2, 0, 1, 0, 1))
	for i, x := range []struct {
		m            api.SpaceMap
		unit, at, to int
		want         []api.MapExtent
	}{
		{free, 1, 1, 0, []api.MapExtent{extent(1, 0, 1, 0, 0), extent(1, 1, 2, 1, 2), extent(2, 0, 1, 0, 1)}},
		{free, 1, 2, 0, []api.MapExtent{extent(1, 0, 1, 1, 1), extent(1, 1, 1, 0, 0), extent(1, 2, 1, 1, 3), extent(2, 0, 1, 0, 1)}},
		{free, 1, 3, 0, []api.MapExtent{extent(1, 0, 2, 1, 1), extent(1, 2, 1, 0, 0), extent(2, 0, 1, 0, 1)}},
		{free, 0, 1, 1, []api.MapExtent{extent(1, 0, 3, 1, 1), extent(2, 0, 1, 1, 0)}},
		// On the same unit, before or behind its place.
		{free, 1, 1, 1, []api.MapExtent{extent(1, 0, 1, 1, 0), extent(1, 1, 2, 1, 2), extent(2, 0, 1, 0, 1)}},
		{free, 0, 1, 0, []api.MapExtent{extent(1, 0, 3, 1, 1), extent(2, 0, 1, 0, 0)}},
		{mapOf([]int{3}, extent(1, 0, 1, 0, 0)), 0, 0, 0, []api.MapExtent{extent(1, 0, 1, 0, 1)}},
		// It joins what stands beside it, on both sides.
		{mapOf([]int{3, 1}, extent(1, 0, 1, 0, 0), extent(1, 1, 1, 1, 0), extent(1, 2, 1, 0, 2)), 1, 0, 0, []api.MapExtent{extent(1, 0, 3, 0, 0)}},
		{mapOf([]int{3, 2}, extent(1, 0, 1, 0, 0), extent(2, 0, 1, 1, 0)), 1, 0, 0, []api.MapExtent{extent(1, 0, 1, 0, 0), extent(2, 0, 1, 0, 1)}},
	} {
		m, e := spacemap.Moved(x.m, x.unit, x.at, x.to)
		if !same(m, mapOf(x.m.Units, x.want...)) || e != api.OK {
			t.Errorf("%d: %v, %v, not %v", i, m, e, x.want)
		}
	}
	for _, x := range []struct {
		m            api.SpaceMap
		unit, at, to int
		want         api.Errno
	}{
		{free, -1, 0, 0, api.ErrRange}, {free, 3, 0, 0, api.ErrRange}, {free, 0, -1, 0, api.ErrRange}, {free, 0, 3, 0, api.ErrRange}, {free, 1, 4, 0, api.ErrRange}, {free, 2, 0, 0, api.ErrRange}, {free, 1, 1, -1, api.ErrRange}, {free, 1, 1, 3, api.ErrRange}, {free, 0, 0, 3, api.ErrRange},
		{free, math.MaxInt, 0, 0, api.ErrRange}, {free, math.MinInt, 0, 0, api.ErrRange}, {free, 0, math.MaxInt, 0, api.ErrRange}, {free, 0, math.MinInt, 0, api.ErrRange}, {free, 0, 1, math.MaxInt, api.ErrRange}, {free, 0, 1, math.MinInt, api.ErrRange}, {full(), 1, 0, 0, api.ErrRange},
		{free, 0, 0, 1, api.ErrNone}, {free, 0, 2, 0, api.ErrNone}, {free, 1, 0, 0, api.ErrNone}, {free, 0, 0, 2, api.ErrNone},
		{free, 0, 1, 2, api.ErrFull}, {full(), 0, 0, 0, api.ErrFull}, {full(), 0, 1, 1, api.ErrFull}, {full(), 2, 0, 2, api.ErrFull}, {full(), 2, 0, 0, api.ErrFull},
	} {
		m, e := spacemap.Moved(x.m, x.unit, x.at, x.to)
		isError(t, "Moved", m, 0, e, x.want)
	}
}

// P7.4: maps that are balanced.
func TestBalanced(t *testing.T) {
	for i, x := range []struct {
		m     api.SpaceMap
		want  []api.MapExtent
		moved int
	}{
		{two(), []api.MapExtent{extent(1, 0, 2, 0, 0), extent(1, 2, 1, 1, 4), extent(3, 0, 3, 1, 1), extent(1000, 0, 1, 0, 2)}, 0},
		{full(), full().Extents, 0}, {mapOf([]int{0, 0}), nil, 0}, {mapOf([]int{5}, extent(1, 0, 4, 0, 1)), []api.MapExtent{extent(1, 0, 4, 0, 1)}, 0},
		// The last page of the fullest unit, the least of several; the emptiest one, the least of several.
		{mapOf([]int{9, 9}, extent(1, 0, 1, 0, 8), extent(2, 0, 1, 0, 0)), []api.MapExtent{extent(1, 0, 1, 1, 0), extent(2, 0, 1, 0, 0)}, 1},
		{mapOf([]int{4, 4, 4}, extent(1, 0, 2, 0, 0), extent(1, 2, 2, 1, 2)), []api.MapExtent{extent(1, 0, 1, 0, 0), extent(1, 1, 1, 2, 0), extent(1, 2, 2, 1, 2)}, 1},
		{mapOf([]int{4, 4, 4}, extent(1, 0, 2, 1, 0), extent(1, 2, 1, 2, 1)), []api.MapExtent{extent(1, 0, 1, 1, 0), extent(1, 1, 1, 0, 0), extent(1, 2, 1, 2, 1)}, 1},
		{mapOf([]int{4, 4, 4}, extent(1, 0, 4, 1, 0)), []api.MapExtent{extent(1, 0, 2, 1, 0), extent(1, 2, 1, 2, 0), extent(1, 3, 1, 0, 0)}, 2},
		// A difference of one is none to be balanced.
		{mapOf([]int{4, 4}, extent(1, 0, 3, 0, 0), extent(1, 3, 2, 1, 0)), []api.MapExtent{extent(1, 0, 3, 0, 0), extent(1, 3, 2, 1, 0)}, 0},
		// Full units, and units without places, take nothing, but the full ones give.
		{mapOf([]int{9, 1, 0}, extent(1, 0, 5, 0, 1), extent(1, 5, 1, 1, 0)), []api.MapExtent{extent(1, 0, 5, 0, 1), extent(1, 5, 1, 1, 0)}, 0},
		{mapOf([]int{8, 1, 0, 3}, extent(1, 0, 8, 0, 0)), []api.MapExtent{extent(1, 0, 4, 0, 0), extent(1, 4, 1, 3, 2), extent(1, 5, 1, 3, 1), extent(1, 6, 1, 3, 0), extent(1, 7, 1, 1, 0)}, 4},
		{mapOf([]int{3, 4}, extent(1, 0, 3, 0, 0)), []api.MapExtent{extent(1, 0, 2, 0, 0), extent(1, 2, 1, 1, 0)}, 1},
	} {
		m, n, e := spacemap.Balanced(x.m)
		if !same(m, mapOf(x.m.Units, x.want...)) || n != x.moved || e != api.OK {
			t.Errorf("%d: %v, %d, %v, not %v, %d", i, m, n, e, x.want, x.moved)
		}
	}
}
