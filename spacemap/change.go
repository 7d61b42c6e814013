package spacemap

import "midrange/api"

// Placed returns the map with so many more pages of a segment, and the entries of this change.
func Placed(m api.SpaceMap, segment, pages int) (api.SpaceMap, []api.MapEntry, api.Errno) {
	before, e := PagesOf(m, segment)
	if e != api.OK {
		return api.SpaceMap{}, nil, e
	}
	if !isPageCount(pages) {
		return api.SpaceMap{}, nil, api.ErrRange
	}
	if !isPageCount(before + pages) {
		return api.SpaceMap{}, nil, api.ErrLarge
	}
	if pages > sum(freeIn(m)) {
		return api.SpaceMap{}, nil, api.ErrFull
	}
	p := placesOf(m)
	var steps []api.MapExtent
	for next := before; next < before+pages; {
		x := p.step(pageID{segment, next}, before+pages-next)
		p.put(x)
		steps = append(steps, x)
		next += x.Count
	}
	return p.toMap(), entriesOf(api.MapAdd, steps), api.OK
}

func sum(l []int) int {
	all := 0
	for _, n := range l {
		all += n
	}
	return all
}

// step returns where pages from a first one on are placed next, of which so many are left. There is a free place.
func (p places) step(first pageID, left int) api.MapExtent {
	unit := p.freest()
	at := p.firstFree(unit)
	count := 1
	for count < left && at+count < len(p[unit]) && p[unit][at+count] == (pageID{}) {
		count++
	}
	return api.MapExtent{Segment: first.segment, Page: first.page, Count: count, Unit: unit, At: at}
}

// entriesOf returns the entries of a change; what changes nothing has none.
func entriesOf(kind int, l []api.MapExtent) []api.MapEntry {
	if len(l) == 0 {
		return nil
	}
	var entries []api.MapEntry
	for _, x := range l {
		entries = append(entries, api.MapEntry{Kind: kind, Extent: x})
	}
	return append(entries, api.MapEntry{Kind: api.MapCommit})
}

// Taken returns the map in which a segment has its first pages alone, and the entries of this change.
func Taken(m api.SpaceMap, segment, keep int) (api.SpaceMap, []api.MapEntry, api.Errno) {
	before, e := PagesOf(m, segment)
	if e != api.OK {
		return api.SpaceMap{}, nil, e
	}
	if keep < 0 || keep > before {
		return api.SpaceMap{}, nil, api.ErrRange
	}
	p := placesOf(m)
	var parts []api.MapExtent
	for _, x := range m.Extents {
		if x.Segment == segment && x.Page+x.Count > keep {
			part := partFrom(x, keep)
			p.empty(part)
			parts = append(parts, part)
		}
	}
	return p.toMap(), entriesOf(api.MapTake, parts), api.OK
}

// partFrom returns the part of an extent that has the pages from one on.
func partFrom(x api.MapExtent, page int) api.MapExtent {
	cut := max(0, page-x.Page)
	x.Page += cut
	x.Count -= cut
	x.At += cut
	return x
}

// Moved returns the map in which the page at a place is at the first free place of a unit. This place is found before the page leaves its own one, so that it is another one, too, if the unit is the same.
func Moved(m api.SpaceMap, unit, at, to int) (api.SpaceMap, api.Errno) {
	if _, e := CheckMap(m); e != api.OK {
		return api.SpaceMap{}, e
	}
	if !isUnit(m.Units, unit) || at < 0 || at >= m.Units[unit] || !isUnit(m.Units, to) {
		return api.SpaceMap{}, api.ErrRange
	}
	p := placesOf(m)
	if p[unit][at] == (pageID{}) {
		return api.SpaceMap{}, api.ErrNone
	}
	if p.firstFree(to) == api.None {
		return api.SpaceMap{}, api.ErrFull
	}
	p.move(unit, at, to)
	return p.toMap(), api.OK
}

// Balanced returns the balanced map, and how many pages were moved. It ends, since each move makes the numbers of used places less unequal.
func Balanced(m api.SpaceMap) (api.SpaceMap, int, api.Errno) {
	if _, e := CheckMap(m); e != api.OK {
		return api.SpaceMap{}, 0, e
	}
	p := placesOf(m)
	moved := 0
	for {
		from, to := p.fullest(), p.emptiest()
		if to == api.None || p.used(from) < p.used(to)+2 {
			return p.toMap(), moved, api.OK
		}
		p.move(from, p.lastUsed(from), to)
		moved++
	}
}
