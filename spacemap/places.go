package spacemap

import (
	"slices"

	"midrange/api"
)

// pageID says which page of a segment it is; the zero one is no page, since segments are numbered from 1 on.
type pageID struct{ segment, page int }

// places are the pages that stand on the places of each unit. Unlike the extents of a map, they may have gaps in a segment, as between two entries of a group.
type places [][]pageID

// placesOf returns the places of a right map.
func placesOf(m api.SpaceMap) places {
	var p places
	for _, size := range m.Units {
		p = append(p, make([]pageID, size))
	}
	for _, x := range m.Extents {
		p.put(x)
	}
	return p
}

// put lets the pages of an extent stand on its places.
func (p places) put(x api.MapExtent) {
	for i := range x.Count {
		p[x.Unit][x.At+i] = pageID{x.Segment, x.Page + i}
	}
}

// empty makes the places of an extent free.
func (p places) empty(x api.MapExtent) {
	clear(p[x.Unit][x.At : x.At+x.Count])
}

// have says whether the pages of an extent stand on its places, which there are.
func (p places) have(x api.MapExtent) bool {
	for i := range x.Count {
		if p[x.Unit][x.At+i] != (pageID{x.Segment, x.Page + i}) {
			return false
		}
	}
	return true
}

// areFree says whether all places of an extent, which there are, are free.
func (p places) areFree(x api.MapExtent) bool {
	for _, id := range p[x.Unit][x.At : x.At+x.Count] {
		if id != (pageID{}) {
			return false
		}
	}
	return true
}

// firstFree returns the first free place of a unit, or None.
func (p places) firstFree(unit int) int {
	return slices.Index(p[unit], pageID{})
}

// lastUsed returns the last place of a unit on which a page stands, or None.
func (p places) lastUsed(unit int) int {
	for at, id := range slices.Backward(p[unit]) {
		if id != (pageID{}) {
			return at
		}
	}
	return api.None
}

func (p places) free(unit int) int {
	n := 0
	for _, id := range p[unit] {
		if id == (pageID{}) {
			n++
		}
	}
	return n
}

func (p places) used(unit int) int {
	return len(p[unit]) - p.free(unit)
}

// freest returns the first unit with the most free places.
func (p places) freest() int {
	best := 0
	for unit := range p {
		if p.free(unit) > p.free(best) {
			best = unit
		}
	}
	return best
}

// fullest returns the first unit with the most used places.
func (p places) fullest() int {
	best := 0
	for unit := range p {
		if p.used(unit) > p.used(best) {
			best = unit
		}
	}
	return best
}

// emptiest returns the first unit with the fewest used places of those that have a free one, or None.
func (p places) emptiest() int {
	best := api.None
	for unit := range p {
		if p.free(unit) > 0 && (best == api.None || p.used(unit) < p.used(best)) {
			best = unit
		}
	}
	return best
}

// move lets the page of a place stand on the first free place of a unit that has one.
func (p places) move(unit, at, to int) {
	free := p.firstFree(to)
	p[to][free] = p[unit][at]
	p[unit][at] = pageID{}
}

// nextPage returns the number of the page behind the last one of a segment.
func (p places) nextPage(segment int) int {
	next := 0
	for _, unit := range p {
		for _, id := range unit {
			if id.segment == segment {
				next = max(next, id.page+1)
			}
		}
	}
	return next
}

// sizes returns how many places each unit has.
func (p places) sizes() []int {
	var l []int
	for _, unit := range p {
		l = append(l, len(unit))
	}
	return l
}

// toMap returns the map of the places; it is a right one if no segment has a gap.
func (p places) toMap() api.SpaceMap {
	m := api.SpaceMap{Units: p.sizes()}
	for _, x := range p.singles() {
		last := len(m.Extents) - 1
		if last >= 0 && continues(m.Extents[last], x) {
			m.Extents[last].Count++
		} else {
			m.Extents = append(m.Extents, x)
		}
	}
	return m
}

// singles returns an extent for each page, in their order.
func (p places) singles() []api.MapExtent {
	var l []api.MapExtent
	for unit := range p {
		for at, id := range p[unit] {
			if id != (pageID{}) {
				l = append(l, api.MapExtent{Segment: id.segment, Page: id.page, Count: 1, Unit: unit, At: at})
			}
		}
	}
	slices.SortFunc(l, compare)
	return l
}
