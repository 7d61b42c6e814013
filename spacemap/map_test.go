package spacemap_test

import (
	"math"
	"slices"
	"testing"

	"midrange/api"
	"midrange/spacemap"
)

// extent has the segment, the first page, the number of pages, the unit and the first place.
func extent(segment, page, count, unit, at int) api.MapExtent {
	return api.MapExtent{Segment: segment, Page: page, Count: count, Unit: unit, At: at}
}

func mapOf(units []int, l ...api.MapExtent) api.SpaceMap {
	return api.SpaceMap{Units: units, Extents: l}
}

func same(a, b api.SpaceMap) bool {
	return slices.Equal(a.Units, b.Units) && slices.Equal(a.Extents, b.Extents)
}

func cloneOf(m api.SpaceMap) api.SpaceMap {
	return api.SpaceMap{Units: slices.Clone(m.Units), Extents: slices.Clone(m.Extents)}
}

func isNothing(m api.SpaceMap) bool {
	return same(m, api.SpaceMap{})
}

// isMap says what a call returned instead of a map that it must return.
func isMap(t *testing.T, what string, got api.SpaceMap, e api.Errno, want api.SpaceMap) {
	t.Helper()
	if !same(got, want) || e != api.OK {
		t.Fatalf("%s: %v, %v, not %v", what, got, e, want)
	}
}

// isError says what a call returned instead of an error and nothing.
func isError(t *testing.T, what string, got api.SpaceMap, beside int, e, want api.Errno) {
	t.Helper()
	if !isNothing(got) || beside != 0 || e != want {
		t.Fatalf("%s: %v, %d, %v, not %v", what, got, beside, e, want)
	}
}

// two has three segments on four and six places; the place 3 of unit 0 and the places 0 and 5 of unit 1 are free.
func two() api.SpaceMap {
	return mapOf([]int{4, 6}, extent(1, 0, 2, 0, 0), extent(1, 2, 1, 1, 4), extent(3, 0, 3, 1, 1), extent(1000, 0, 1, 0, 2))
}

// full has no free place.
func full() api.SpaceMap {
	return mapOf([]int{2, 0, 1}, extent(7, 0, 1, 0, 1), extent(7, 1, 1, 2, 0), extent(7, 2, 1, 0, 0))
}

var rightMaps = []api.SpaceMap{
	mapOf([]int{0}), mapOf([]int{30}), mapOf([]int{0, 0, 0, 0}), mapOf([]int{30, 30, 30, 30}), mapOf([]int{1, 2}), two(), full(),
	mapOf([]int{30}, extent(1000, 0, 8, 0, 22)),
	mapOf([]int{8, 8}, extent(1, 0, 8, 1, 0)),
	mapOf([]int{1, 1, 1, 30}, extent(1, 0, 1, 3, 29), extent(1, 1, 7, 3, 22)),
	// What is one behind the other is of one extent only if its pages and its places are.
	mapOf([]int{4}, extent(1, 0, 1, 0, 1), extent(1, 1, 1, 0, 0), extent(1, 2, 1, 0, 2), extent(2, 0, 1, 0, 3)),
	mapOf([]int{4, 4}, extent(1, 0, 2, 0, 0), extent(1, 2, 2, 1, 2)),
	mapOf([]int{4}, extent(1, 0, 2, 0, 0), extent(2, 0, 2, 0, 2)),
	mapOf([]int{6}, extent(1, 0, 2, 0, 0), extent(1, 2, 2, 0, 3)),
	// As many extents as places.
	mapOf([]int{1, 2, 1}, extent(1, 0, 1, 1, 0), extent(1, 1, 1, 0, 0), extent(1, 2, 1, 2, 0), extent(1, 3, 1, 1, 1)),
}

// P7.1: right maps.
func TestRightMaps(t *testing.T) {
	for i, m := range rightMaps {
		if at, e := spacemap.CheckMap(m); at != 0 || e != api.OK {
			t.Errorf("%d: %v: %d, %v", i, m, at, e)
		}
	}
}

type wrongMap struct {
	m    api.SpaceMap
	at   int
	want api.Errno
}

// wrongFields are extents that cannot be on the units of 4 and 6 places.
func wrongFields() []api.MapExtent {
	l := []api.MapExtent{
		{}, extent(0, 0, 1, 0, 0), extent(-1, 0, 1, 0, 0), extent(1001, 0, 1, 0, 0),
		extent(1, -1, 1, 0, 0), extent(1, -1, 2, 0, 0), extent(1, 8, 1, 0, 0), extent(1, 7, 2, 0, 0), extent(1, 0, 9, 1, 0),
		extent(1, 0, 0, 0, 0), extent(1, 0, -1, 0, 0), extent(1, 1, -1, 0, 1),
		extent(1, 0, 1, -1, 0), extent(1, 0, 1, 2, 0), extent(1, 0, 1, 4, 0),
		extent(1, 0, 1, 0, -1), extent(1, 0, 1, 0, 4), extent(1, 0, 1, 1, 6), extent(1, 0, 2, 0, 3), extent(1, 0, 2, 1, 5), extent(1, 0, 5, 0, 0), extent(1, 0, 7, 1, 0),
	}
	for _, n := range []int{math.MinInt, math.MaxInt, math.MaxInt - 1, 1 << 32} {
		l = append(l, extent(n, 0, 1, 0, 0), extent(1, n, 1, 0, 0), extent(1, 0, n, 0, 0), extent(1, 0, 1, n, 0), extent(1, 0, 1, 0, n), extent(n, n, n, n, n), extent(1, n, n, 0, 0), extent(1, 0, n, 0, n), extent(1, 1, n, 0, 1), extent(1, 2, n, 1, 2))
	}
	return l
}

func wrongMaps() []wrongMap {
	none := []api.MapExtent{{}, {}, {}, {}}
	first := extent(1, 0, 2, 0, 0)
	units := []int{4, 6}
	l := []wrongMap{
		{mapOf(nil), 0, api.ErrShape}, {mapOf([]int{}, first), 0, api.ErrShape}, {mapOf([]int{1, 1, 1, 1, 1}), 0, api.ErrShape}, {mapOf([]int{31, -1, 1, 1, 1}, none...), 0, api.ErrShape},
		{mapOf([]int{-1}), 0, api.ErrRange}, {mapOf([]int{31}), 0, api.ErrRange}, {mapOf([]int{30, 31}, first), 0, api.ErrRange}, {mapOf([]int{1, 1, 1, -1}, none...), 0, api.ErrRange}, {mapOf([]int{math.MaxInt, math.MaxInt}), 0, api.ErrRange}, {mapOf([]int{math.MinInt}), 0, api.ErrRange},
		{mapOf([]int{0}, first), 0, api.ErrLarge}, {mapOf([]int{1, 2}, none...), 0, api.ErrLarge}, {mapOf([]int{0, 0}, none[:1]...), 0, api.ErrLarge}, {mapOf([]int{1, 0}, extent(1, 0, 1, 0, 0), extent(1, 1, 1, 0, 0)), 0, api.ErrLarge},
		// The order of extents.
		{mapOf(units, extent(2, 0, 1, 0, 0), extent(1, 0, 1, 0, 1)), 1, api.ErrOrder}, {mapOf(units, first, first), 1, api.ErrOrder}, {mapOf(units, first, extent(1, 0, 1, 1, 0)), 1, api.ErrOrder},
		{mapOf(units, first, extent(1, 2, 2, 1, 0), extent(1, 1, 1, 1, 4)), 2, api.ErrOrder}, {mapOf(units, first, extent(2, 0, 1, 1, 0), extent(1, 2, 1, 1, 1)), 2, api.ErrOrder}, {mapOf(units, extent(3, 0, 1, 0, 0), extent(2, 5, 1, 0, 0)), 1, api.ErrOrder},
		// Pages without gaps.
		{mapOf(units, extent(1, 1, 1, 0, 0)), 0, api.ErrBroken}, {mapOf(units, first, extent(1, 1, 1, 1, 0)), 1, api.ErrBroken}, {mapOf(units, first, extent(1, 3, 1, 1, 0)), 1, api.ErrBroken}, {mapOf(units, first, extent(2, 2, 1, 0, 2)), 1, api.ErrBroken}, {mapOf(units, first, extent(2, 1, 1, 0, 0)), 1, api.ErrBroken},
		// Places with two pages.
		{mapOf(units, first, extent(1, 2, 1, 0, 1)), 1, api.ErrDouble}, {mapOf(units, first, extent(2, 0, 4, 0, 0)), 1, api.ErrDouble}, {mapOf(units, extent(1, 0, 4, 0, 0), extent(2, 0, 1, 0, 3)), 1, api.ErrDouble}, {mapOf(units, extent(1, 0, 4, 0, 0), extent(2, 0, 1, 0, 0)), 1, api.ErrDouble}, {mapOf(units, extent(1, 0, 1, 0, 2), extent(2, 0, 3, 0, 0)), 1, api.ErrDouble},
		{mapOf(units, first, extent(2, 0, 1, 1, 0), extent(3, 0, 1, 0, 1)), 2, api.ErrDouble}, {mapOf(units, extent(1, 0, 1, 0, 3), extent(1, 1, 1, 1, 5), extent(1, 2, 2, 0, 2)), 2, api.ErrDouble},
		{mapOf(units, first, extent(1, 2, 1, 1, 3), extent(1, 3, 2, 1, 3)), 2, api.ErrDouble},
		// Extents that could be one; the place behind the first one has an earlier page.
		{mapOf(units, first, extent(1, 2, 1, 0, 2)), 1, api.ErrForm}, {mapOf(units, first, extent(1, 2, 1, 1, 0), extent(1, 3, 5, 1, 1)), 2, api.ErrForm}, {mapOf(units, extent(1, 0, 1, 0, 2), extent(1, 1, 2, 0, 0), extent(1, 3, 1, 0, 2)), 2, api.ErrDouble},
		// The first extent that is wrong.
		{mapOf(units, first, extent(1, 3, 1, 0, 0), extent(0, 0, 0, 0, 0)), 1, api.ErrBroken}, {mapOf(units, first, extent(1, 2, 1, 1, 0), extent(2, 0, 1, 2, 0), first), 2, api.ErrRange},
	}
	for _, x := range wrongFields() {
		l = append(l, wrongMap{mapOf(units, x), 0, api.ErrRange}, wrongMap{mapOf(units, extent(2, 0, 2, 0, 0), x), 1, api.ErrRange})
	}
	return l
}

// P7.1: wrong maps, with the first error of the first extent.
func TestWrongMaps(t *testing.T) {
	for i, x := range wrongMaps() {
		if at, e := spacemap.CheckMap(x.m); at != x.at || e != x.want {
			t.Errorf("%d: %v: %d, %v, not %d, %v", i, x.m, at, e, x.at, x.want)
		}
	}
}

// P7.2 to P7.6: the error of the map, without the index, comes before all others.
func TestErrorOfTheMap(t *testing.T) {
	long := string(make([]byte, 3201))
	for _, x := range wrongMaps() {
		if l, e := spacemap.FreeIn(x.m); len(l) != 0 || e != x.want {
			t.Errorf("FreeIn(%v): %v, %v", x.m, l, e)
		}
		for _, n := range []int{1, -1, 1001} {
			if a, b, e := spacemap.PlaceOf(x.m, n, n); a != 0 || b != 0 || e != x.want {
				t.Errorf("PlaceOf(%v, %d): %d, %d, %v", x.m, n, a, b, e)
			}
			if a, e := spacemap.PagesOf(x.m, n); a != 0 || e != x.want {
				t.Errorf("PagesOf(%v, %d): %d, %v", x.m, n, a, e)
			}
			m, l, e := spacemap.Placed(x.m, n, n)
			isError(t, "Placed", m, len(l), e, x.want)
			m, l, e = spacemap.Taken(x.m, n, n)
			isError(t, "Taken", m, len(l), e, x.want)
			m, e = spacemap.Moved(x.m, n, n, n)
			isError(t, "Moved", m, 0, e, x.want)
		}
		m, n, e := spacemap.Balanced(x.m)
		isError(t, "Balanced", m, n, e, x.want)
		m, n, e = spacemap.Recovered(x.m, "")
		isError(t, "Recovered", m, n, e, x.want)
		m, n, e = spacemap.Recovered(x.m, long)
		isError(t, "Recovered", m, n, e, x.want)
	}
}

// P7.2: free places, places and numbers of pages.
func TestAsking(t *testing.T) {
	for _, x := range []struct {
		m    api.SpaceMap
		free []int
	}{{two(), []int{1, 2}}, {full(), []int{0, 0, 0}}, {mapOf([]int{0, 30, 7}), []int{0, 30, 7}}, {mapOf([]int{5}, extent(1, 0, 2, 0, 3)), []int{3}}} {
		if l, e := spacemap.FreeIn(x.m); !slices.Equal(l, x.free) || e != api.OK {
			t.Errorf("FreeIn(%v): %v, %v", x.m, l, e)
		}
	}
	for _, x := range [][4]int{{1, 0, 0, 0}, {1, 1, 0, 1}, {1, 2, 1, 4}, {3, 0, 1, 1}, {3, 1, 1, 2}, {3, 2, 1, 3}, {1000, 0, 0, 2}} {
		if unit, at, e := spacemap.PlaceOf(two(), x[0], x[1]); unit != x[2] || at != x[3] || e != api.OK {
			t.Errorf("PlaceOf(%d, %d): %d, %d, %v", x[0], x[1], unit, at, e)
		}
	}
	for _, x := range [][2]int{{1, 3}, {1, -1}, {3, 3}, {2, 0}, {1000, 1}, {999, 0}, {0, 0}, {-1, 0}, {1001, 0}, {1, math.MaxInt}, {1, math.MinInt}, {math.MaxInt, 0}, {math.MinInt, 0}} {
		if unit, at, e := spacemap.PlaceOf(two(), x[0], x[1]); unit != 0 || at != 0 || e != api.ErrMissing {
			t.Errorf("PlaceOf(%d, %d): %d, %d, %v", x[0], x[1], unit, at, e)
		}
	}
	for _, x := range [][2]int{{1, 3}, {2, 0}, {3, 3}, {4, 0}, {999, 0}, {1000, 1}} {
		if n, e := spacemap.PagesOf(two(), x[0]); n != x[1] || e != api.OK {
			t.Errorf("PagesOf(%d): %d, %v", x[0], n, e)
		}
	}
	for _, segment := range []int{0, -1, 1001, math.MinInt, math.MaxInt} {
		if n, e := spacemap.PagesOf(two(), segment); n != 0 || e != api.ErrRange {
			t.Errorf("PagesOf(%d): %d, %v", segment, n, e)
		}
	}
}
