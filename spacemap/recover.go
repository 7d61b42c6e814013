package spacemap

import "midrange/api"

// Recovered returns the map after all groups of a log, and how many groups there are.
func Recovered(m api.SpaceMap, log string) (api.SpaceMap, int, api.Errno) {
	if _, e := CheckMap(m); e != api.OK {
		return api.SpaceMap{}, 0, e
	}
	l, grouped, e := EntriesIn(log)
	if e != api.OK {
		return api.SpaceMap{}, 0, e
	}
	p := placesOf(m)
	groups := 0
	for _, y := range l[:grouped] {
		if !p.apply(y) {
			return api.SpaceMap{}, 0, api.ErrClash
		}
		if y.Kind == api.MapCommit {
			groups++
		}
	}
	return p.toMap(), groups, api.OK
}

// apply applies an entry, and says whether that is possible. That the pages that were taken are the last ones is seen behind their group: it takes them by ascending pages.
func (p places) apply(y api.MapEntry) bool {
	x := y.Extent
	switch y.Kind {
	case api.MapAdd:
		if !areOn(p.sizes(), x) || !p.areFree(x) || x.Page != p.nextPage(x.Segment) {
			return false
		}
		p.put(x)
	case api.MapTake:
		if !areOn(p.sizes(), x) || !p.have(x) {
			return false
		}
		p.empty(x)
	case api.MapCommit:
		_, e := CheckMap(p.toMap())
		return e == api.OK
	}
	return true
}
