package spacemap_test

import (
	"maps"
	"math"
	"slices"
	"testing"

	"midrange/api"
	"midrange/spacemap"
)

// sequence makes numbers that look like random ones, the same in each run.
type sequence struct{ state uint64 }

func (q *sequence) below(n int) int {
	q.state = q.state*6364136223846793005 + 1442695040888963407
	return int(q.state>>33) % n
}

// page is a segment and a number, place a unit and a place.
type page [2]int
type place [2]int

// book is the second computation: where each page stands, by pages.
type book struct {
	units []int
	where map[page]place
}

func bookOf(m api.SpaceMap) book {
	b := book{slices.Clone(m.Units), map[page]place{}}
	for _, x := range m.Extents {
		for i := range x.Count {
			b.where[page{x.Segment, x.Page + i}] = place{x.Unit, x.At + i}
		}
	}
	return b
}

func (b book) clone() book {
	return book{slices.Clone(b.units), maps.Clone(b.where)}
}

// runs returns pages that stand one behind the other as extents.
func (b book) runs(pages []page) []api.MapExtent {
	var l []api.MapExtent
	for i, g := range pages {
		at := b.where[g]
		if i > 0 && pages[i-1] == (page{g[0], g[1] - 1}) && b.where[pages[i-1]] == (place{at[0], at[1] - 1}) {
			l[len(l)-1].Count++
		} else {
			l = append(l, extent(g[0], g[1], 1, at[0], at[1]))
		}
	}
	return l
}

// pages are all pages, in order.
func (b book) pages() []page {
	return slices.SortedFunc(maps.Keys(b.where), func(g, h page) int { return slices.Compare(g[:], h[:]) })
}

func (b book) toMap() api.SpaceMap {
	return mapOf(b.units, b.runs(b.pages())...)
}

// count returns the number of pages of a segment if they are right, or -1.
func (b book) count(segment int) int {
	n, most := 0, 0
	for g := range b.where {
		if g[0] == segment {
			n++
			most = max(most, g[1]+1)
		}
	}
	if n != most {
		return -1
	}
	return n
}

func (b book) used() []int {
	l := make([]int, len(b.units))
	for _, at := range b.where {
		l[at[0]]++
	}
	return l
}

func (b book) free() []int {
	l := b.used()
	for i := range l {
		l[i] = b.units[i] - l[i]
	}
	return l
}

// on returns the page that stands at a place.
func (b book) on(at place) (page, bool) {
	for g, p := range b.where {
		if p == at {
			return g, true
		}
	}
	return page{}, false
}

// firstFree returns the first free place of a unit, or -1.
func (b book) firstFree(unit int) int {
	for at := range b.units[unit] {
		if _, ok := b.on(place{unit, at}); !ok {
			return at
		}
	}
	return -1
}

// firstMost returns the first index of the greatest number.
func firstMost(l []int) int {
	return slices.Index(l, slices.Max(l))
}

// placed places pages one by one: behind the one before, as long as there is a free place.
func (b book) placed(segment, n int) (book, []api.MapEntry) {
	after, first := b.clone(), b.count(segment)
	var l []api.MapEntry
	var at place
	for i := range n {
		at[1]++
		if _, taken := after.on(at); i == 0 || taken || at[1] >= b.units[at[0]] {
			unit := firstMost(after.free())
			at = place{unit, after.firstFree(unit)}
			l = append(l, add(segment, first+i, 0, at[0], at[1]))
		}
		l[len(l)-1].Extent.Count++
		after.where[page{segment, first + i}] = at
	}
	if n > 0 {
		l = append(l, commit())
	}
	return after, l
}

func (b book) taken(segment, keep int) (book, []api.MapEntry) {
	after := b.clone()
	var pages []page
	for i := keep; i < b.count(segment); i++ {
		pages = append(pages, page{segment, i})
		delete(after.where, page{segment, i})
	}
	var l []api.MapEntry
	for _, x := range b.runs(pages) {
		l = append(l, api.MapEntry{Kind: api.MapTake, Extent: x})
	}
	if len(pages) > 0 {
		l = append(l, commit())
	}
	return after, l
}

func (b book) moved(g page, to int) book {
	after := b.clone()
	after.where[g] = place{to, b.firstFree(to)}
	return after
}

func (b book) balanced() (book, int) {
	after, n := b.clone(), 0
	for {
		used, free := after.used(), after.free()
		to := -1
		for i := range used {
			if free[i] > 0 && (to < 0 || used[i] < used[to]) {
				to = i
			}
		}
		from := firstMost(used)
		if to < 0 || used[from]-used[to] < 2 {
			return after, n
		}
		at := b.units[from] - 1
		for _, ok := after.on(place{from, at}); !ok; _, ok = after.on(place{from, at}) {
			at--
		}
		g, _ := after.on(place{from, at})
		after = after.moved(g, to)
		n++
	}
}

// apply applies an entry, and says whether it may.
func (b book) apply(y api.MapEntry) bool {
	x := y.Extent
	if y.Kind == api.MapCommit {
		for g := range b.where {
			if b.count(g[0]) < 0 {
				return false
			}
		}
		return true
	}
	last := -1
	for g := range b.where {
		if g[0] == x.Segment {
			last = max(last, g[1])
		}
	}
	if y.Kind == api.MapAdd && x.Page != last+1 {
		return false
	}
	for i := range x.Count {
		g, at := page{x.Segment, x.Page + i}, place{x.Unit, x.At + i}
		h, taken := b.on(at)
		if x.Unit >= len(b.units) || at[1] >= b.units[x.Unit] || y.Kind == api.MapAdd && taken || y.Kind == api.MapTake && (!taken || g != h) {
			return false
		}
		if y.Kind == api.MapAdd {
			b.where[g] = at
		} else {
			delete(b.where, g)
		}
	}
	return true
}

// recovered returns the map behind all groups, how many there are, and whether they can be applied.
func (b book) recovered(l []api.MapEntry) (book, int, bool) {
	n := 0
	for {
		end := slices.Index(l, commit())
		if end < 0 {
			return b, n, true
		}
		b = b.clone()
		for _, y := range l[:end+1] {
			if !b.apply(y) {
				return book{}, 0, false
			}
		}
		l = l[end+1:]
		n++
	}
}

// everyMap calls a function for all maps of units with these places and of segments 1 and 2 with at most three pages each.
func everyMap(units []int, f func(m api.SpaceMap)) {
	var all []place
	for unit, n := range units {
		for at := range n {
			all = append(all, place{unit, at})
		}
	}
	choices := []page{{}, {1, 0}, {1, 1}, {1, 2}, {2, 0}, {2, 1}, {2, 2}}
	var try func(b book, i int)
	try = func(b book, i int) {
		if i == len(all) {
			if b.count(1) >= 0 && b.count(2) >= 0 {
				f(b.toMap())
			}
			return
		}
		try(b, i+1)
		for _, g := range choices[1:] {
			if _, ok := b.where[g]; !ok {
				next := b.clone()
				next.where[g] = all[i]
				try(next, i+1)
			}
		}
	}
	try(book{units, map[page]place{}}, 0)
}

var smallUnits = [][]int{{3}, {2, 3}, {1, 0, 2}, {1, 2, 1, 1}, {0, 4, 1}}

// someMap returns a map with any units, the first ones fuller than the last ones, and with segments whose pages were placed one by one, some of them beside one another.
func (q *sequence) someMap() api.SpaceMap {
	b := book{nil, map[page]place{}}
	for range 1 + q.below(4) {
		b.units = append(b.units, q.below(31)>>q.below(3))
	}
	segments := []int{1, 2, 2 + q.below(998), 1000}
	for range q.below(60) {
		unit := q.below(1 + q.below(len(b.units)))
		segment := segments[q.below(4)]
		n := b.count(segment)
		at := b.firstFree(unit)
		if at < 0 || n == 8 {
			continue
		}
		if other := q.below(b.units[unit]); q.below(4) == 0 {
			if _, taken := b.on(place{unit, other}); !taken {
				at = other
			}
		}
		b.where[page{segment, n}] = place{unit, at}
	}
	return b.toMap()
}

// segmentOf returns a segment of a map, or any one.
func (q *sequence) segmentOf(m api.SpaceMap) int {
	if len(m.Extents) > 0 && q.below(4) > 0 {
		return m.Extents[q.below(len(m.Extents))].Segment
	}
	return 1 + q.below(1000)
}

// manyMaps calls a function for all small maps and for some large ones.
func manyMaps(q *sequence, n int, f func(m api.SpaceMap)) {
	for _, units := range smallUnits {
		everyMap(units, f)
	}
	for range n {
		f(q.someMap())
	}
}

// errorOf is the second computation of CheckMap: by what stood at each place and of each segment before an extent.
func errorOf(m api.SpaceMap) (int, api.Errno) {
	all := 0
	for _, n := range m.Units {
		all += n
	}
	switch {
	case len(m.Units) < 1 || len(m.Units) > 4:
		return 0, api.ErrShape
	case slices.Min(m.Units) < 0 || slices.Max(m.Units) > 30:
		return 0, api.ErrRange
	case len(m.Extents) > all:
		return 0, api.ErrLarge
	}
	b := bookOf(mapOf(m.Units))
	for i, x := range m.Extents {
		if e := b.errorOf(m, i); e != api.OK {
			return i, e
		}
		for j := range x.Count {
			b.where[page{x.Segment, x.Page + j}] = place{x.Unit, x.At + j}
		}
	}
	return 0, api.OK
}

// errorOf returns the error of an extent, with what stands there before it.
func (b book) errorOf(m api.SpaceMap, i int) api.Errno {
	x, later := m.Extents[i], true
	if i > 0 {
		y := m.Extents[i-1]
		later = slices.Compare([]int{x.Segment, x.Page}, []int{y.Segment, y.Page}) > 0
	}
	switch {
	case x.Segment < 1 || x.Segment > 1000 || x.Page < 0 || x.Count < 1 || x.Page+x.Count > 8:
		return api.ErrRange
	case x.Unit < 0 || x.Unit >= len(m.Units) || x.At < 0 || x.At+x.Count > m.Units[x.Unit]:
		return api.ErrRange
	case !later:
		return api.ErrOrder
	case x.Page != b.count(x.Segment):
		return api.ErrBroken
	}
	for j := range x.Count {
		if _, taken := b.on(place{x.Unit, x.At + j}); taken {
			return api.ErrDouble
		}
	}
	if x.Page > 0 && b.where[page{x.Segment, x.Page - 1}] == (place{x.Unit, x.At - 1}) {
		return api.ErrForm
	}
	return api.OK
}

// P7.1: all small maps, and those that differ from them, against the second computation.
func TestCheckingAgainstBooks(t *testing.T) {
	q := &sequence{1}
	found := map[api.Errno]int{}
	manyMaps(q, 3000, func(m api.SpaceMap) {
		for range 12 {
			wrong := q.changed(m)
			at, e := spacemap.CheckMap(wrong)
			if i, f := errorOf(wrong); at != i || e != f {
				t.Fatalf("CheckMap(%v): %d, %v, not %d, %v", wrong, at, e, i, f)
			}
			found[e]++
		}
		if at, e := spacemap.CheckMap(m); at != 0 || e != api.OK {
			t.Fatalf("CheckMap(%v): %d, %v", m, at, e)
		}
	})
	for _, e := range []api.Errno{api.OK, api.ErrShape, api.ErrRange, api.ErrLarge, api.ErrOrder, api.ErrBroken, api.ErrDouble, api.ErrForm} {
		if found[e] < 20 {
			t.Errorf("error %v was found %d times", e, found[e])
		}
	}
}

// changed returns a map with some small changes, which are mostly wrong.
func (q *sequence) changed(m api.SpaceMap) api.SpaceMap {
	m = cloneOf(m)
	for range 1 + q.below(2) {
		if len(m.Extents) == 0 || q.below(12) == 0 {
			q.changeUnits(&m)
			continue
		}
		i := q.below(len(m.Extents))
		x := &m.Extents[i]
		by := q.below(5) - 2
		switch q.below(9) {
		case 0:
			x.Segment += by
		case 1:
			x.Page += by
		case 2:
			x.Count += by
		case 3:
			x.Unit += by
		case 4:
			x.At += by
		case 5:
			m.Extents = slices.Insert(m.Extents, q.below(len(m.Extents)+1), *x)
		case 6:
			m.Extents = slices.Delete(m.Extents, i, i+1)
		case 7:
			if rest := *x; x.Count > 1 {
				x.Count = 1
				m.Extents = slices.Insert(m.Extents, i+1, extent(rest.Segment, rest.Page+1, rest.Count-1, rest.Unit, rest.At+1))
			}
		case 8:
			j := q.below(len(m.Extents))
			m.Extents[i], m.Extents[j] = m.Extents[j], m.Extents[i]
		}
	}
	return m
}

func (q *sequence) changeUnits(m *api.SpaceMap) {
	switch i := q.below(len(m.Units) + 1); {
	case i < len(m.Units):
		m.Units[i] += q.below(9) - 4
	case q.below(2) == 0:
		m.Units = append(m.Units, make([]int, q.below(4))...)
	default:
		m.Units = m.Units[:q.below(len(m.Units)+1)]
		if len(m.Units) == 0 {
			m.Units = nil
		}
	}
}

// P7.2: what is asked, against the second computation.
func TestAskingAgainstBooks(t *testing.T) {
	q := &sequence{2}
	manyMaps(q, 1000, func(m api.SpaceMap) {
		b := bookOf(m)
		if l, e := spacemap.FreeIn(m); !slices.Equal(l, b.free()) || e != api.OK {
			t.Fatalf("FreeIn(%v): %v, %v", m, l, e)
		}
		for _, segment := range []int{1, 2, 3, q.segmentOf(m), 1000} {
			if n, e := spacemap.PagesOf(m, segment); n != b.count(segment) || e != api.OK {
				t.Fatalf("PagesOf(%v, %d): %d, %v", m, segment, n, e)
			}
			for i := -1; i < 10; i++ {
				want, ok := b.where[page{segment, i}]
				unit, at, e := spacemap.PlaceOf(m, segment, i)
				if unit != want[0] || at != want[1] || ok != (e == api.OK) || !ok && e != api.ErrMissing {
					t.Fatalf("PlaceOf(%v, %d, %d): %d, %d, %v", m, segment, i, unit, at, e)
				}
			}
		}
	})
}

func sum(l []int) int {
	all := 0
	for _, n := range l {
		all += n
	}
	return all
}

// P7.3, P7.8: placing and taking, against the second computation.
func TestChangesAgainstBooks(t *testing.T) {
	q := &sequence{3}
	manyMaps(q, 2000, func(m api.SpaceMap) {
		b := bookOf(m)
		for _, segment := range []int{1, 3, q.segmentOf(m)} {
			before := b.count(segment)
			for n := range 9 {
				after, l, e := spacemap.Placed(m, segment, n)
				switch {
				case before+n > 8:
					isError(t, "Placed", after, len(l), e, api.ErrLarge)
				case n > sum(b.free()):
					isError(t, "Placed", after, len(l), e, api.ErrFull)
				default:
					want, entries := b.placed(segment, n)
					isChange(t, "Placed", after, l, e, want.toMap(), entries)
					isKept(t, m, after, segment, n)
				}
			}
			for keep := range 9 {
				after, l, e := spacemap.Taken(m, segment, keep)
				if keep > before {
					isError(t, "Taken", after, len(l), e, api.ErrRange)
					continue
				}
				want, entries := b.taken(segment, keep)
				isChange(t, "Taken", after, l, e, want.toMap(), entries)
				isKept(t, m, after, segment, keep-before)
			}
		}
	})
}

// isKept says if a change of a segment by so many pages changed more than that.
func isKept(t *testing.T, m, after api.SpaceMap, segment, by int) {
	t.Helper()
	if at, e := spacemap.CheckMap(after); e != api.OK {
		t.Fatalf("%v, changed: %v: %d, %v", m, after, at, e)
	}
	b, c := bookOf(m), bookOf(after)
	for g, at := range b.where {
		if h, ok := c.where[g]; ok && h != at || !ok && (g[0] != segment || g[1] < b.count(segment)+by) {
			t.Fatalf("%v, changed by %d pages of %d: %v", m, by, segment, after)
		}
	}
	if sum(b.free())-by != sum(c.free()) || b.count(segment)+by != c.count(segment) || len(c.where) != len(b.where)+by {
		t.Fatalf("%v, changed by %d pages of %d: %v", m, by, segment, after)
	}
}

// P7.4, P7.8: moves, against the second computation.
func TestMovesAgainstBooks(t *testing.T) {
	q := &sequence{4}
	manyMaps(q, 300, func(m api.SpaceMap) {
		b := bookOf(m)
		for unit, size := range m.Units {
			for at := range size {
				g, used := b.on(place{unit, at})
				for to := range m.Units {
					after, e := spacemap.Moved(m, unit, at, to)
					switch {
					case !used:
						isError(t, "Moved", after, 0, e, api.ErrNone)
					case b.firstFree(to) < 0:
						isError(t, "Moved", after, 0, e, api.ErrFull)
					default:
						isMap(t, "Moved", after, e, b.moved(g, to).toMap())
						hasPages(t, m, after)
					}
				}
			}
		}
	})
}

// hasPages says if a map does not have the pages of another one.
func hasPages(t *testing.T, m, after api.SpaceMap) {
	t.Helper()
	if at, e := spacemap.CheckMap(after); e != api.OK || !slices.Equal(bookOf(m).pages(), bookOf(after).pages()) || !slices.Equal(m.Units, after.Units) {
		t.Fatalf("%v, moved: %v: %d, %v", m, after, at, e)
	}
}

// P7.4, P7.8, P7.9: balancing, against the second computation.
func TestBalancingAgainstBooks(t *testing.T) {
	q := &sequence{5}
	most := 0
	manyMaps(q, 3000, func(m api.SpaceMap) {
		want, moves := bookOf(m).balanced()
		after, n, e := spacemap.Balanced(m)
		isMap(t, "Balanced", after, e, want.toMap())
		if n != moves {
			t.Fatalf("Balanced(%v): %d moves, not %d", m, n, moves)
		}
		most = max(most, n)
		hasPages(t, m, after)
		used, free := want.used(), want.free()
		for i := range used {
			for j := range used {
				if free[j] > 0 && used[i] >= used[j]+2 {
					t.Fatalf("Balanced(%v): %v", m, after)
				}
			}
		}
		again, n, e := spacemap.Balanced(after)
		isMap(t, "Balanced again", again, e, after)
		if n != 0 {
			t.Fatalf("Balanced again, %v: %d moves", after, n)
		}
	})
	if most < 8 {
		t.Errorf("at most %d moves", most)
	}
}

// change makes a change of a map, if one is possible.
func (q *sequence) change(t *testing.T, m api.SpaceMap) (api.SpaceMap, []api.MapEntry) {
	t.Helper()
	segment := q.segmentOf(m)
	have, _ := spacemap.PagesOf(m, segment)
	if q.below(5) < 2 {
		after, l, e := spacemap.Taken(m, segment, q.below(have+1))
		if e != api.OK {
			t.Fatalf("Taken(%v, %d): %v", m, segment, e)
		}
		return after, l
	}
	after, l, e := spacemap.Placed(m, segment, q.below(9-have))
	if e == api.ErrFull {
		return m, nil
	}
	if e != api.OK {
		t.Fatalf("Placed(%v, %d): %v", m, segment, e)
	}
	return after, l
}

// history is maps one behind the other, and the log of what was changed: ends has where the log ends behind each of them.
type history struct {
	states []api.SpaceMap
	ends   []int
	log    string
}

// historyOf makes changes that have entries, as long as the log may grow.
func (q *sequence) historyOf(t *testing.T, m api.SpaceMap, changes int) history {
	t.Helper()
	h := history{states: []api.SpaceMap{m}, ends: []int{0}}
	var all []api.MapEntry
	for range changes {
		after, l := q.change(t, m)
		if len(l) == 0 {
			isMap(t, "a change without entries", after, api.OK, m)
			continue
		}
		if len(all)+len(l) > 200 {
			break
		}
		all, m = append(all, l...), after
		h.states, h.ends = append(h.states, m), append(h.ends, 16*len(all))
	}
	log, e := spacemap.LogOf(all)
	if log != rawOf(0, all...) || e != api.OK {
		t.Fatalf("LogOf(%v): % x, %v", all, log, e)
	}
	h.log = log
	return h
}

// isState says if a log, of which just so many bytes are as they were, does not lead to the state that it must.
func (h history) isState(t *testing.T, log string, bytes int) {
	t.Helper()
	n := 0
	for n+1 < len(h.ends) && h.ends[n+1] <= bytes {
		n++
	}
	m, groups, e := spacemap.Recovered(h.states[0], log)
	if !same(m, h.states[n]) || groups != n || e != api.OK {
		t.Fatalf("%v with % x: %v, %d, %v, not %v, %d", h.states[0], log, m, groups, e, h.states[n], n)
	}
}

// P7.7: logs that are whole, cut off anywhere, or changed in a byte.
func TestRecoveredToAMoment(t *testing.T) {
	q := &sequence{6}
	longest := 0
	for range 150 {
		h := q.historyOf(t, q.someMap(), q.below(20))
		longest = max(longest, len(h.log))
		for n := range len(h.log) + 1 {
			h.isState(t, h.log[:n], n)
		}
		for at := range len(h.log) {
			bytes := []byte(h.log)
			bytes[at] += byte(1 + q.below(255))
			h.isState(t, string(bytes), at)
		}
	}
	h := q.historyOf(t, mapOf([]int{30, 30, 30, 30}), 400)
	h.isState(t, h.log, len(h.log))
	if longest < 500 || len(h.log) < 2900 {
		t.Errorf("logs have at most %d and %d bytes", longest, len(h.log))
	}
}

// P7.7: each other byte at each place of a log.
func TestEachByte(t *testing.T) {
	q := &sequence{7}
	for range 3 {
		h := q.historyOf(t, mapOf([]int{3, 4}), 6)
		for at := range len(h.log) {
			for by := 1; by < 256; by++ {
				bytes := []byte(h.log)
				bytes[at] += byte(by)
				h.isState(t, string(bytes), at)
			}
		}
	}
}

// P7.5: entries with any fields and right checksums, against the limits.
func TestEntriesAgainstLimits(t *testing.T) {
	q := &sequence{8}
	for range 30000 {
		kind, segment, first, count, unit, at := q.below(4), q.below(1003), q.below(10), q.below(10), q.below(6), q.below(33)
		if q.below(8) == 0 {
			segment, first, count, unit, at = 0, 0, 0, 0, 0
		}
		right := segment >= 1 && segment <= 1000 && count >= 1 && first+count <= 8 && unit < 4 && at+count <= 30
		want := api.OK
		switch {
		case kind == 3:
			want = api.ErrKind
		case kind == api.MapCommit && segment+first+count+unit+at > 0:
			want = api.ErrForm
		case kind != api.MapCommit && !right:
			want = api.ErrRange
		}
		y := api.MapEntry{Kind: kind, Extent: extent(segment, first, count, unit, at)}
		log := raw(kind, segment, first, count, unit, at, 0)
		l, _, e := spacemap.EntriesIn(log)
		if e != api.OK || (want == api.OK) != slices.Equal(l, []api.MapEntry{y}) || want != api.OK && len(l) > 0 {
			t.Fatalf("EntriesIn of %v: %v, %v", y, l, e)
		}
		if got, e := spacemap.LogOf([]api.MapEntry{y}); e != want || want == api.OK && got != log || want != api.OK && got != "" {
			t.Fatalf("LogOf(%v): % x, %v, not %v", y, got, e, want)
		}
	}
}

// entry returns an entry that fits a book, or not by a little.
func (q *sequence) entry(b book) api.MapEntry {
	pages := b.pages()
	if len(pages) > 0 && q.below(2) == 0 {
		g := pages[q.below(len(pages))]
		at := b.where[g]
		y := take(g[0], g[1], 1+q.below(2), at[0], at[1])
		if q.below(10) == 0 {
			y.Extent.At = q.below(3)
		}
		return y
	}
	segment, unit := 1+q.below(3), q.below(len(b.units))
	y := add(segment, 0, 1+q.below(2), unit, max(0, b.firstFree(unit)))
	for _, g := range pages {
		if g[0] == segment {
			y.Extent.Page = g[1] + 1
		}
	}
	switch q.below(15) {
	case 0:
		y.Extent.Page = q.below(7)
	case 1:
		y.Extent.Unit = q.below(4)
	}
	return y
}

// P7.6: logs with any entries, against the second computation.
func TestRecoveringAgainstBooks(t *testing.T) {
	q := &sequence{9}
	clashes, right := 0, 0
	manyMaps(q, 20000, func(m api.SpaceMap) {
		var l []api.MapEntry
		b := bookOf(m)
		for range q.below(6) {
			y := commit()
			if q.below(3) > 0 {
				y = q.entry(b)
			}
			if y.Extent.Page+y.Extent.Count > 8 || y.Extent.At+y.Extent.Count > 30 {
				continue
			}
			l = append(l, y)
			if next := b.clone(); next.apply(y) {
				b = next
			}
		}
		want, groups, ok := bookOf(m).recovered(l)
		after, n, e := spacemap.Recovered(m, rawOf(0, l...))
		if !ok {
			clashes++
			isError(t, "Recovered", after, n, e, api.ErrClash)
			return
		}
		isMap(t, "Recovered", after, e, want.toMap())
		if n != groups {
			t.Fatalf("Recovered(%v, %v): %d groups, not %d", m, l, n, groups)
		}
		if len(want.where) != len(bookOf(m).where) {
			right++
		}
	})
	if clashes < 1000 || right < 1000 {
		t.Errorf("%d clashes, %d changes", clashes, right)
	}
}

// results are maps that calls return, in all ways in which they can be returned, with entries that they return.
func results(m api.SpaceMap, log string) ([]api.SpaceMap, [][]api.MapEntry, [][]int) {
	var maps []api.SpaceMap
	var entries [][]api.MapEntry
	for _, segment := range []int{1, 2, 3} {
		for n := range 9 {
			after, l, _ := spacemap.Placed(m, segment, n)
			less, k, _ := spacemap.Taken(m, segment, n)
			maps, entries = append(maps, after, less), append(entries, l, k)
		}
	}
	for unit, size := range m.Units {
		for to := range m.Units {
			after, _ := spacemap.Moved(m, unit, size-1, to)
			maps = append(maps, after)
		}
	}
	balanced, _, _ := spacemap.Balanced(m)
	recovered, _, _ := spacemap.Recovered(m, log)
	same, _, _ := spacemap.Recovered(m, "")
	l, _, _ := spacemap.EntriesIn(log)
	free, _ := spacemap.FreeIn(m)
	return append(maps, balanced, recovered, same), append(entries, l), [][]int{free}
}

// All calls: arguments stay as they are, and results have memory of their own.
func TestOwnMemory(t *testing.T) {
	q := &sequence{10}
	for range 300 {
		m := q.someMap()
		before := cloneOf(m)
		log := q.historyOf(t, m, 4).log
		first, entries, free := results(m, log)
		want, wantEntries, wantFree := results(m, log)
		for i, got := range first {
			scribble(got.Units, -i)
			scribble(got.Extents, extent(-i, i, -i, i, -i))
		}
		for i, l := range entries {
			scribble(l, add(-i, i, -i, i, -i))
		}
		scribble(free[0], -1)
		again, againEntries, againFree := results(m, log)
		for i := range want {
			if !same(m, before) || !same(again[i], want[i]) {
				t.Fatalf("result %d for %v shares memory", i, before)
			}
		}
		if !slices.EqualFunc(againEntries, wantEntries, slices.Equal) || !slices.EqualFunc(againFree, wantFree, slices.Equal) {
			t.Fatalf("results for %v share memory", before)
		}
	}
}

// scribble writes something to all of a slice, up to its capacity.
func scribble[T any](l []T, x T) {
	l = l[:cap(l)]
	for i := range l {
		l[i] = x
	}
}

// All calls: they return, whatever their arguments are.
func TestAnyArguments(t *testing.T) {
	numbers := []int{math.MinInt, -1, 0, 1, 2, 7, 8, 9, 30, 1000, 1001, math.MaxInt}
	for _, m := range rightMaps {
		for _, a := range numbers {
			for _, b := range numbers {
				spacemap.PlaceOf(m, a, b)
				spacemap.PagesOf(m, a)
				spacemap.Placed(m, a, b)
				spacemap.Taken(m, a, b)
				for _, c := range numbers {
					spacemap.Moved(m, a, b, c)
					wrong := cloneOf(m)
					wrong.Extents = append(wrong.Extents, extent(1, a, b, 0, c), extent(a, b, c, a, b))
					spacemap.CheckMap(wrong)
				}
			}
		}
	}
}
