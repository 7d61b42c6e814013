package paging

import (
	"midrange/api"
	"midrange/segment"
)

// VictimOf returns the frame that would get a page that is loaded for a pool.
func VictimOf(x api.Paging, pool int) (int, api.Errno) {
	if e := CheckPaging(x); e != api.OK {
		return 0, e
	}
	if !isPool(pool) {
		return 0, api.ErrRange
	}
	i := victimOf(x, pool)
	if i == api.None {
		return 0, api.ErrNone
	}
	return i, api.OK
}

// victimOf is None if the pool has no frame.
func victimOf(x api.Paging, pool int) int {
	victim := api.None
	for i, f := range x.Frames {
		if f.Pool == pool && (victim == api.None || goesBefore(f, x.Frames[victim])) {
			victim = i
		}
	}
	return victim
}

// goesBefore says whether a frame gets a new page rather than another one of a lower index.
func goesBefore(f, other api.PageFrame) bool {
	if f.Used != other.Used {
		return other.Used
	}
	if f.Changed != other.Changed {
		return other.Changed
	}
	return f.Last < other.Last
}

// putOnDisk writes the changed page of a frame to disk.
func putOnDisk(x *api.Paging, i int) {
	f := &x.Frames[i]
	x.Disk, _ = segment.Written(x.Disk, addressOf(pageOf(*f)), f.Bytes) // no error: the disk has the pages of all frames
	x.Written++
	f.Changed = false
}

// load reads a page into a frame of a pool that has one, and returns the frame.
func load(x *api.Paging, pool int, p pageID) int {
	i := victimOf(*x, pool)
	if x.Frames[i].Changed {
		putOnDisk(x, i)
	}
	if x.Frames[i].Used {
		unchain(x, i)
	}
	bytes, _ := pageOn(x.Disk, p) // it is there: accesses to other pages are refused
	x.Reads++
	x.Frames[i] = api.PageFrame{Pool: pool, Used: true, Segment: p.segment, Page: p.page, Bytes: bytes}
	enchain(x, i)
	return i
}

// use finds or loads a page, and returns its frame.
func use(x *api.Paging, pool int, p pageID) *api.PageFrame {
	x.Time++
	i, _ := find(*x, p)
	if i == api.None {
		i = load(x, pool, p)
	}
	x.Frames[i].Last = x.Time
	return &x.Frames[i]
}

// part is bytes of a page, from one offset to another one.
type part struct {
	page     pageID
	from, to int
}

// partsOf returns the parts of so many bytes, page by page.
func partsOf(a api.Address, n int) []part {
	var l []part
	for at, end := a.Offset, a.Offset+n; at < end; {
		from := at % api.PageSize
		to := min(api.PageSize, from+end-at)
		l = append(l, part{pageID{a.Segment, at / api.PageSize}, from, to})
		at += to - from
	}
	return l
}

func read(x *api.Paging, a api.PageAccess) string {
	bytes := ""
	for _, p := range partsOf(a.Address, a.Length) {
		f := use(x, a.Pool, p.page)
		bytes += f.Bytes[p.from:p.to]
	}
	return bytes
}

func write(x *api.Paging, a api.PageAccess) {
	rest := a.Bytes
	for _, p := range partsOf(a.Address, len(a.Bytes)) {
		f := use(x, a.Pool, p.page)
		n := p.to - p.from
		f.Bytes = f.Bytes[:p.from] + rest[:n] + f.Bytes[p.to:]
		f.Changed = true
		rest = rest[n:]
	}
}

// force writes the changed pages of a segment to disk.
func force(x *api.Paging, number int) {
	for _, i := range changedFrames(*x) {
		if x.Frames[i].Segment == number {
			putOnDisk(x, i)
		}
	}
}

func flush(x *api.Paging) {
	for _, i := range changedFrames(*x) {
		putOnDisk(x, i)
	}
}

// usedOf returns an access with what its kind uses alone.
func usedOf(a api.PageAccess) api.PageAccess {
	switch a.Kind {
	case api.PageRead:
		return api.PageAccess{Kind: a.Kind, Pool: a.Pool, Address: a.Address, Length: a.Length}
	case api.PageWrite:
		return api.PageAccess{Kind: a.Kind, Pool: a.Pool, Address: a.Address, Bytes: a.Bytes}
	case api.PageForce:
		return api.PageAccess{Kind: a.Kind, Address: api.Address{Segment: a.Address.Segment}}
	}
	return api.PageAccess{Kind: a.Kind}
}

// checkAccess returns the error of an access to a right memory, apart from counts that become too large.
func checkAccess(x api.Paging, a api.PageAccess) api.Errno {
	if a.Kind < 0 || a.Kind >= api.PageAccessKinds {
		return api.ErrKind
	}
	if a != usedOf(a) {
		return api.ErrForm
	}
	switch a.Kind {
	case api.PageRead, api.PageWrite:
		return checkBytes(x, a)
	case api.PageForce:
		_, e := segment.ReadAt(x.Disk, a.Address, 0) // only the segment can be wrong
		return e
	}
	return api.OK
}

// checkBytes returns the error of an access that reads or writes; one of Bytes and Length is nothing.
func checkBytes(x api.Paging, a api.PageAccess) api.Errno {
	if !isPool(a.Pool) {
		return api.ErrRange
	}
	if _, e := segment.ReadAt(x.Disk, a.Address, a.Length+len(a.Bytes)); e != api.OK {
		return e
	}
	if victimOf(x, a.Pool) == api.None {
		return api.ErrNone
	}
	return api.OK
}

// accessed is Accessed of a right memory.
func accessed(x api.Paging, a api.PageAccess) (api.Paging, string, api.Errno) {
	if e := checkAccess(x, a); e != api.OK {
		return api.Paging{}, "", e
	}
	after := copyOf(x)
	bytes := ""
	switch a.Kind {
	case api.PageRead:
		bytes = read(&after, a)
	case api.PageWrite:
		write(&after, a)
	case api.PageForce:
		force(&after, a.Address.Segment)
	case api.PageFlush:
		flush(&after)
	}
	if !areCounts(after.Time, after.Reads, after.Written) {
		return api.Paging{}, "", api.ErrFull
	}
	return after, bytes, api.OK
}

// Accessed returns the memory after an access, and the bytes that were read.
func Accessed(x api.Paging, a api.PageAccess) (api.Paging, string, api.Errno) {
	if e := CheckPaging(x); e != api.OK {
		return api.Paging{}, "", e
	}
	return accessed(x, a)
}

// Run returns the memory after all accesses, the bytes that each of them read, and their number. Beside the error of an access the number is its index.
func Run(x api.Paging, l []api.PageAccess) (api.Paging, []string, int, api.Errno) {
	if e := CheckPaging(x); e != api.OK {
		return api.Paging{}, nil, 0, e
	}
	if len(l) > api.MaxPageAccesses {
		return api.Paging{}, nil, 0, api.ErrLarge
	}
	out := copyOf(x)
	var all []string
	for i, a := range l {
		after, bytes, e := accessed(out, a)
		if e != api.OK {
			return api.Paging{}, nil, i, e
		}
		out = after
		all = append(all, bytes)
	}
	return out, all, len(l), api.OK
}
