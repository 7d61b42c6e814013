package paging

import "midrange/api"

// chainOfPage returns the number of the chain in which a page is found.
func chainOfPage(p pageID) int {
	return (7*p.segment + p.page) % api.PageBuckets
}

// isTable says whether the chains are an inverted page table of frames that are right in themselves.
func isTable(x api.Paging) bool {
	reached := make([]bool, len(x.Frames))
	for chain, head := range x.Heads {
		for i := head; i != api.None; i = x.Frames[i].Next {
			if i < 0 || i >= len(x.Frames) || reached[i] || !x.Frames[i].Used || chainOfPage(pageOf(x.Frames[i])) != chain {
				return false
			}
			reached[i] = true
		}
	}
	for i, f := range x.Frames {
		if f.Used && !reached[i] {
			return false
		}
	}
	return true
}

// chained returns the frames of a chain, in order.
func chained(x api.Paging, chain int) []int {
	var l []int
	for i := x.Heads[chain]; i != api.None; i = x.Frames[i].Next {
		l = append(l, i)
	}
	return l
}

// find returns the frame that has a page (None: no one), and how many frames were asked.
func find(x api.Paging, p pageID) (int, int) {
	l := chained(x, chainOfPage(p))
	for n, i := range l {
		if pageOf(x.Frames[i]) == p {
			return i, n + 1
		}
	}
	return api.None, len(l)
}

// unchain takes a frame out of the chain of its page.
func unchain(x *api.Paging, i int) {
	link := &x.Heads[chainOfPage(pageOf(x.Frames[i]))]
	for *link != i {
		link = &x.Frames[*link].Next
	}
	*link = x.Frames[i].Next
}

// enchain makes a frame the first one of the chain of its page.
func enchain(x *api.Paging, i int) {
	head := &x.Heads[chainOfPage(pageOf(x.Frames[i]))]
	x.Frames[i].Next = *head
	*head = i
}

// ChainOf returns the frames of a chain, in order.
func ChainOf(x api.Paging, chain int) ([]int, api.Errno) {
	if e := CheckPaging(x); e != api.OK {
		return nil, e
	}
	if chain < 0 || chain >= api.PageBuckets {
		return nil, api.ErrRange
	}
	return chained(x, chain), api.OK
}

// FrameOf returns the frame that has a page, and how many frames are asked until it is found.
func FrameOf(x api.Paging, segment, page int) (int, int, api.Errno) {
	if e := CheckPaging(x); e != api.OK {
		return 0, 0, e
	}
	p := pageID{segment, page}
	if _, ok := pageOn(x.Disk, p); !ok {
		return 0, 0, api.ErrMissing
	}
	i, asked := find(x, p)
	if i == api.None {
		return 0, 0, api.ErrNone
	}
	return i, asked, api.OK
}
