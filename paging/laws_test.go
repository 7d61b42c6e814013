package paging_test

import (
	"cmp"
	"math"
	"slices"
	"testing"

	"midrange/api"
	"midrange/paging"
	"midrange/segment"
)

// sequence makes numbers that look like random ones, the same in each run.
type sequence struct{ state uint64 }

func (q *sequence) below(n int) int {
	q.state = q.state*6364136223846793005 + 1442695040888963407
	return int(q.state>>33) % n
}

// text returns so many bytes, few of them different.
func (q *sequence) text(n int) string {
	bytes := make([]byte, n)
	for i := range bytes {
		bytes[i] = byte("ab\x00\xff"[q.below(4)])
	}
	return string(bytes)
}

func (q *sequence) store() api.Store {
	s := api.Store{Next: 1 + q.below(7)}
	if q.below(5) == 0 {
		s.Next = 1001
	}
	for number := max(1, s.Next-5); number < s.Next; number++ {
		if q.below(3) > 0 {
			s.Segments = append(s.Segments, api.Segment{Number: number, Bytes: q.text(32 * (1 + q.below(8)))})
		}
	}
	return s
}

// pagesOf returns all pages of a store, as the addresses of their first bytes.
func pagesOf(s api.Store) []api.Address {
	var l []api.Address
	for _, g := range s.Segments {
		for at := 0; at < len(g.Bytes); at += 32 {
			l = append(l, api.Address{Segment: g.Number, Offset: at})
		}
	}
	return l
}

// held is a frame of the second computation; its page is the address of the first byte.
type held struct {
	pool, last    int
	used, changed bool
	page          api.Address
}

// machine is a second computation of a memory: bytes by their addresses, and chains as lists.
type machine struct {
	disk                 api.Store
	onDisk, now          map[api.Address]byte
	frames               []held
	chains               [5][]int
	time, reads, written int
}

func bytesOf(s api.Store) map[api.Address]byte {
	m := map[api.Address]byte{}
	for _, g := range s.Segments {
		for at := range len(g.Bytes) {
			m[api.Address{Segment: g.Number, Offset: at}] = g.Bytes[at]
		}
	}
	return m
}

// storeWith returns the store of a machine with bytes.
func (m *machine) storeWith(bytes map[api.Address]byte) api.Store {
	s := api.Store{Next: m.disk.Next}
	for _, g := range m.disk.Segments {
		text := make([]byte, len(g.Bytes))
		for at := range text {
			text[at] = bytes[api.Address{Segment: g.Number, Offset: at}]
		}
		s.Segments = append(s.Segments, api.Segment{Number: g.Number, Bytes: string(text)})
	}
	return s
}

// paging returns the machine as a memory.
func (m *machine) paging() api.Paging {
	x := api.Paging{Disk: m.storeWith(m.onDisk), Heads: []int{-1, -1, -1, -1, -1}, Time: m.time, Reads: m.reads, Written: m.written}
	now := m.storeWith(m.now)
	for _, h := range m.frames {
		f := api.PageFrame{Pool: h.pool, Used: h.used, Changed: h.changed, Segment: h.page.Segment, Page: h.page.Offset / 32, Last: h.last, Next: -1}
		for _, g := range now.Segments {
			if h.used && g.Number == f.Segment {
				f.Bytes = g.Bytes[32*f.Page:][:32]
			}
		}
		x.Frames = append(x.Frames, f)
	}
	for chain, l := range m.chains {
		before := &x.Heads[chain]
		for _, i := range l {
			*before = i
			before = &x.Frames[i].Next
		}
	}
	return x
}

func chainOf(page api.Address) int {
	return (page.Segment*7 + page.Offset/32) % 5
}

// machine returns a machine in a state that may not have come from Begin: chains in any order, pages used at the same time.
func (q *sequence) machine() *machine {
	m := &machine{disk: q.store(), time: q.below(30)}
	m.onDisk, m.now = bytesOf(m.disk), bytesOf(m.disk)
	m.reads, m.written = q.below(100), q.below(100)
	pools := 1 + q.below(3)
	pages := pagesOf(m.disk)
	for i := range 1 + q.below(8) {
		h := held{pool: q.below(pools)}
		if len(pages) > 0 && m.time > 0 && q.below(4) > 0 {
			at := q.below(len(pages))
			h = held{h.pool, 1 + q.below(m.time), true, q.below(2) == 0, pages[at]}
			pages = slices.Delete(pages, at, at+1)
			chain := &m.chains[chainOf(h.page)]
			*chain = slices.Insert(*chain, q.below(len(*chain)+1), i)
			if h.changed && q.below(4) > 0 {
				m.put(h.page, q.text(32))
			}
		}
		m.frames = append(m.frames, h)
	}
	return m
}

// put replaces bytes of the machine's store.
func (m *machine) put(a api.Address, bytes string) {
	for i := range len(bytes) {
		m.now[api.Address{Segment: a.Segment, Offset: a.Offset + i}] = bytes[i]
	}
}

// frameOf returns the frame of a page, and where it is in its chain.
func (m *machine) frameOf(page api.Address) (int, int) {
	for asked, i := range m.chains[chainOf(page)] {
		if m.frames[i].page == page {
			return i, asked + 1
		}
	}
	return -1, 0
}

// victim returns the frame that is replaced: the least one by what is asked one after the other.
func (m *machine) victim(pool int) int {
	rank := func(i int) []int {
		h := m.frames[i]
		r := []int{0, 0, h.last, i}
		if h.used {
			r[0] = 1
		}
		if h.changed {
			r[1] = 1
		}
		return r
	}
	var l []int
	for i, h := range m.frames {
		if h.pool == pool {
			l = append(l, i)
		}
	}
	if len(l) == 0 {
		return -1
	}
	return slices.MinFunc(l, func(i, j int) int { return slices.Compare(rank(i), rank(j)) })
}

// clean writes the page of a frame to disk, if it was changed.
func (m *machine) clean(i int) {
	h := &m.frames[i]
	if !h.changed {
		return
	}
	for at := range 32 {
		a := api.Address{Segment: h.page.Segment, Offset: h.page.Offset + at}
		m.onDisk[a] = m.now[a]
	}
	h.changed = false
	m.written++
}

func (m *machine) use(pool int, page api.Address) int {
	m.time++
	i, _ := m.frameOf(page)
	if i < 0 {
		i = m.victim(pool)
		m.clean(i)
		if m.frames[i].used {
			old := &m.chains[chainOf(m.frames[i].page)]
			*old = slices.DeleteFunc(*old, func(j int) bool { return j == i })
		}
		m.frames[i] = held{pool: pool, used: true, page: page}
		m.chains[chainOf(page)] = slices.Insert(m.chains[chainOf(page)], 0, i)
		m.reads++
	}
	m.frames[i].last = m.time
	return i
}

// do does an access without an error, byte by byte, and returns what is read.
func (m *machine) do(a api.PageAccess) string {
	if a.Kind == api.PageForce || a.Kind == api.PageFlush {
		for i, h := range m.frames {
			if a.Kind == api.PageFlush || h.page.Segment == a.Address.Segment {
				m.clean(i)
			}
		}
		return ""
	}
	var out []byte
	frame := -1
	for i := range a.Length + len(a.Bytes) {
		at := api.Address{Segment: a.Address.Segment, Offset: a.Address.Offset + i}
		if i == 0 || at.Offset%32 == 0 {
			frame = m.use(a.Pool, api.Address{Segment: at.Segment, Offset: at.Offset / 32 * 32})
		}
		if a.Kind == api.PageRead {
			out = append(out, m.now[at])
		} else {
			m.now[at] = a.Bytes[i]
			m.frames[frame].changed = true
		}
	}
	return string(out)
}

// errorOf is the error of an access; of the segment package only what it says of a store is asked.
func (m *machine) errorOf(a api.PageAccess) api.Errno {
	zero := api.PageAccess{Kind: a.Kind}
	moves := a.Kind == api.PageRead || a.Kind == api.PageWrite
	_, numbered := segment.ReadAt(m.disk, api.Address{Segment: a.Address.Segment}, 0)
	_, there := segment.ReadAt(m.disk, a.Address, a.Length+len(a.Bytes))
	switch {
	case a.Kind < 0 || a.Kind > 3:
		return api.ErrKind
	case a.Kind == api.PageRead && a.Bytes != "", a.Kind == api.PageWrite && a.Length != 0, a.Kind == api.PageFlush && a != zero:
		return api.ErrForm
	case a.Kind == api.PageForce && (a.Pool != 0 || a.Address.Offset != 0 || a.Length != 0 || a.Bytes != ""):
		return api.ErrForm
	case moves && (a.Pool < 0 || a.Pool > 2):
		return api.ErrRange
	case moves && there != api.OK:
		return there
	case moves && m.victim(a.Pool) < 0:
		return api.ErrNone
	case a.Kind == api.PageForce:
		return numbered
	}
	return api.OK
}

// access returns an access to a store, mostly a right one for a memory of all pools.
func (q *sequence) access(s api.Store) api.PageAccess {
	number := s.Next + 1 - q.below(9)
	size := 64
	if len(s.Segments) > 0 && q.below(12) > 0 {
		g := s.Segments[q.below(len(s.Segments))]
		number, size = g.Number, len(g.Bytes)
	}
	offset := q.below(size + 1)
	n := q.below(min(size-offset, 1+q.below(80)) + 1)
	a := []api.PageAccess{read(q.below(3), number, offset, n), write(q.below(3), number, offset, q.text(n)), force(number), flush}[min(q.below(7)%5, 3)]
	switch q.below(60) {
	case 0:
		a.Kind = q.below(8) - 2
	case 1:
		a.Pool += 2 - q.below(5)
	case 2:
		a.Length++
	case 3:
		a.Bytes += "x"
	case 4:
		a.Address.Offset += q.below(100) - 50
	}
	return a
}

// P5.1 to P5.4: what is asked of memories of any form is what the second computation says.
func TestQuestionsAgainstMachine(t *testing.T) {
	q := &sequence{1}
	for range 3000 {
		m := q.machine()
		x := m.paging()
		if e := paging.CheckPaging(x); e != api.OK {
			t.Fatalf("CheckPaging(%v): %v", x, e)
		}
		isMachine(t, m, x)
	}
}

// isMachine asks a memory all questions.
func isMachine(t *testing.T, m *machine, x api.Paging) {
	t.Helper()
	for chain, want := range m.chains {
		if l, e := paging.ChainOf(x, chain); !slices.Equal(l, want) || e != api.OK {
			t.Fatalf("ChainOf(%v, %d): %v, %v", x, chain, l, e)
		}
	}
	for _, page := range pagesOf(m.disk) {
		frame, asked := m.frameOf(page)
		want := api.OK
		if frame < 0 {
			frame, want = 0, api.ErrNone
		}
		if i, n, e := paging.FrameOf(x, page.Segment, page.Offset/32); i != frame || n != asked || e != want {
			t.Fatalf("FrameOf(%v, %v): %d, %d, %v", x, page, i, n, e)
		}
	}
	for pool := range 3 {
		frame, want := m.victim(pool), api.OK
		if frame < 0 {
			frame, want = 0, api.ErrNone
		}
		if i, e := paging.VictimOf(x, pool); i != frame || e != want {
			t.Fatalf("VictimOf(%v, %d): %d, %v", x, pool, i, e)
		}
	}
	if s, e := paging.StoreOf(x); !sameStore(s, m.storeWith(m.now)) || e != api.OK {
		t.Fatalf("StoreOf(%v): %v, %v", x, s, e)
	}
	var l []api.Address
	for _, h := range m.frames {
		if h.changed {
			l = append(l, h.page)
		}
	}
	slices.SortFunc(l, func(a, b api.Address) int { return cmp.Or(a.Segment-b.Segment, a.Offset-b.Offset) })
	if got, e := paging.ChangedIn(x); !slices.Equal(got, l) || e != api.OK {
		t.Fatalf("ChangedIn(%v): %v, %v", x, got, e)
	}
}

// P5.3: accesses, alone and in lists, do what the second computation does, to the first one with an error.
func TestAccessesAgainstMachine(t *testing.T) {
	q := &sequence{2}
	var seen [api.ErrEscape + 1]int
	for range 4000 {
		m := q.machine()
		begun := m.paging()
		x, e := begun, api.OK
		var l []api.PageAccess
		var all []string
		for e == api.OK && len(l) < 12 {
			a := q.access(m.disk)
			want := ""
			l = append(l, a)
			if e = m.errorOf(a); e == api.OK {
				want = m.do(a)
				all = append(all, want)
			}
			after, bytes, f := paging.Accessed(x, a)
			if e != f || bytes != want || e == api.OK && !same(after, m.paging()) || e != api.OK && !isNothing(after) {
				t.Fatalf("Accessed(%v, %v): %v, %q, %v, not %v, %q, %v", x, a, after, bytes, f, m.paging(), want, e)
			}
			x = after
		}
		seen[e]++
		if e != api.OK {
			all = nil
		}
		done := len(l)
		if e != api.OK {
			done--
		}
		if after, texts, n, f := paging.Run(begun, l); !same(after, x) || !slices.Equal(texts, all) || n != done || f != e {
			t.Fatalf("Run(%v, %v): %v, %q, %d, %v, not %v, %q, %d, %v", begun, l, after, texts, n, f, x, all, done, e)
		}
		if e == api.OK {
			isMachine(t, m, x)
		}
	}
	for _, e := range []api.Errno{api.OK, api.ErrKind, api.ErrForm, api.ErrRange, api.ErrDestroyed, api.ErrMissing, api.ErrNone} {
		if seen[e] < 50 {
			t.Errorf("the error %v was seen %d times", e, seen[e])
		}
	}
}

// P5.5: accesses read and leave what is read and left without memory.
func TestSameBytes(t *testing.T) {
	q := &sequence{3}
	for range 2000 {
		x := q.machine().paging()
		for range 12 {
			a := q.access(x.Disk)
			before, _ := paging.StoreOf(x)
			after, bytes, e := paging.Accessed(x, a)
			if e != api.OK {
				continue
			}
			want, text := before, ""
			f := api.OK
			switch a.Kind {
			case api.PageRead:
				text, f = segment.ReadAt(before, a.Address, a.Length)
			case api.PageWrite:
				want, f = segment.Written(before, a.Address, a.Bytes)
			}
			got, g := paging.StoreOf(after)
			if bytes != text || !sameStore(got, want) || f != api.OK || g != api.OK {
				t.Fatalf("%v of %v: %q, %v, not %q, %v", a, x, bytes, got, text, want)
			}
			x = after
		}
	}
}

// P5.6: what is forced and flushed is not changed, only written.
func TestNothingIsLost(t *testing.T) {
	q := &sequence{4}
	for range 3000 {
		x := q.machine().paging()
		was, _ := paging.StoreOf(x)
		pages, _ := paging.ChangedIn(x)
		for _, g := range x.Disk.Segments {
			forced := do(t, x, force(g.Number))
			left := slices.DeleteFunc(slices.Clone(pages), func(a api.Address) bool { return a.Segment == g.Number })
			now, e := paging.StoreOf(forced)
			l, f := paging.ChangedIn(forced)
			if !sameStore(now, was) || !slices.Equal(l, left) || forced.Written != x.Written+len(pages)-len(left) || forced.Time != x.Time || forced.Reads != x.Reads || e != api.OK || f != api.OK {
				t.Fatalf("force of %d of %v: %v, %v", g.Number, x, forced, l)
			}
		}
		flushed := do(t, x, flush)
		now, e := paging.StoreOf(flushed)
		l, f := paging.ChangedIn(flushed)
		if !sameStore(now, was) || !sameStore(flushed.Disk, was) || len(l) != 0 || flushed.Written != x.Written+len(pages) || flushed.Time != x.Time || flushed.Reads != x.Reads || e != api.OK || f != api.OK {
			t.Fatalf("flush of %v: %v, %v", x, flushed, l)
		}
	}
}

// P5.7: a page that is found is used without a transfer, and the last page of an access is found behind it.
func TestFoundIsNotRead(t *testing.T) {
	q := &sequence{5}
	found := 0
	for range 3000 {
		m := q.machine()
		x := m.paging()
		for _, page := range pagesOf(m.disk) {
			for pool := range 3 {
				_, _, e := paging.FrameOf(x, page.Segment, page.Offset/32)
				after, _, f := paging.Accessed(x, read(pool, page.Segment, page.Offset, 1+q.below(32)))
				if f == api.ErrNone {
					continue
				}
				if e == api.OK {
					found++
				}
				if _, _, g := paging.FrameOf(after, page.Segment, page.Offset/32); f != api.OK || g != api.OK || (e == api.OK) != (after.Reads == x.Reads) || e == api.OK && after.Written != x.Written {
					t.Fatalf("page %v of %v for %d: %v, %v, %v: %v", page, x, pool, e, f, g, after)
				}
			}
		}
		a := q.access(m.disk)
		if after, _, e := paging.Accessed(x, a); e == api.OK && a.Length+len(a.Bytes) > 0 {
			last := (a.Address.Offset + a.Length + len(a.Bytes) - 1) / 32
			if _, _, e := paging.FrameOf(after, a.Address.Segment, last); e != api.OK {
				t.Fatalf("page %d behind %v of %v: %v", last, a, x, e)
			}
		}
	}
	if found < 1000 {
		t.Errorf("only %d pages were found", found)
	}
}

// P5.8: accesses without writes leave the pages of n frames in n + 1 frames, too.
func TestMoreFrames(t *testing.T) {
	q := &sequence{6}
	for range 1000 {
		disk, pool := q.store(), q.below(3)
		var l []api.PageAccess
		for len(l) < 40 && len(disk.Segments) > 0 {
			a := q.access(disk)
			a.Pool, a.Kind, a.Bytes = pool, api.PageRead, ""
			if _, e := segment.ReadAt(disk, a.Address, a.Length); e == api.OK {
				l = append(l, a)
			}
		}
		var fewer []api.Address
		for frames := 1; frames <= 8; frames++ {
			x := do(t, begin(t, disk, slices.Repeat([]int{pool}, frames)...), l...)
			var pages []api.Address
			for _, page := range pagesOf(disk) {
				if _, _, e := paging.FrameOf(x, page.Segment, page.Offset/32); e == api.OK {
					pages = append(pages, page)
				}
			}
			if slices.ContainsFunc(fewer, func(page api.Address) bool { return !slices.Contains(pages, page) }) {
				t.Fatalf("%v: %v in %d frames, %v in %d", l, fewer, frames-1, pages, frames)
			}
			fewer = pages
		}
	}
}

// spoil changes all lists of a memory, also behind their ends.
func spoil(x api.Paging) {
	for i := range x.Frames {
		x.Frames[i] = api.PageFrame{Pool: 9}
	}
	for i := range x.Heads {
		x.Heads[i] = 99
	}
	spoilStore(x.Disk)
	_ = append(x.Frames, x.Frames...)
	_ = append(x.Heads, x.Heads...)
}

func spoilStore(s api.Store) {
	for i := range s.Segments {
		s.Segments[i] = api.Segment{Number: -1, Bytes: "spoiled"}
	}
	_ = append(s.Segments, s.Segments...)
}

// roomy returns the sample with lists that have room behind their ends.
func roomy() api.Paging {
	x := sample()
	x.Disk.Segments = append(make([]api.Segment, 0, 20), x.Disk.Segments...)
	x.Frames = append(make([]api.PageFrame, 0, 20), x.Frames...)
	x.Heads = append(make([]int, 0, 20), x.Heads...)
	return x
}

// R3: arguments stay as they are, also behind their ends, and a result is memory of its own.
func TestResultsAreNew(t *testing.T) {
	x := roomy()
	as := func(call string) {
		t.Helper()
		if !same(x, sample()) || x.Frames[:7][6] != (api.PageFrame{}) || x.Heads[:6][5] != 0 || x.Disk.Segments[:4][3] != (api.Segment{}) {
			t.Fatalf("%s: the argument became %v", call, x)
		}
	}
	for _, a := range []api.PageAccess{read(0, 1, 0, 1), read(0, 1, 32, 40), read(0, 1, 0, 0), write(1, 3, 0, "x"), write(1, 3, 250, ""), write(2, 4, 5, "x"), force(3), force(1), flush} {
		after, _, e := paging.Accessed(x, a)
		spoil(after)
		as("Accessed")
		after, _, _, f := paging.Run(x, []api.PageAccess{a, a})
		spoil(after)
		as("Run")
		if e != api.OK || f != api.OK {
			t.Errorf("%v: %v, %v", a, e, f)
		}
	}
	after, _, _, _ := paging.Run(x, nil)
	spoil(after)
	as("Run of nothing")
	s, _ := paging.StoreOf(x)
	spoilStore(s)
	as("StoreOf")
	chain, _ := paging.ChainOf(x, 2)
	clear(chain)
	as("ChainOf")
	clean, _, _ := paging.Accessed(x, flush)
	unchanged := copyOf(clean)
	s, _ = paging.StoreOf(clean)
	spoilStore(s)
	if !same(clean, unchanged) {
		t.Errorf("StoreOf: the argument became %v", clean)
	}
	pools := append(make([]int, 0, 9), 1, 0)
	begun, _ := paging.Begin(x.Disk, pools)
	spoil(begun)
	as("Begin")
	if !slices.Equal(pools[:4], []int{1, 0, 0, 0}) {
		t.Errorf("Begin: the pools became %v", pools[:4])
	}
}

// R1, R2: every call returns, and beside an error there is nothing else.
func TestEveryCallReturns(t *testing.T) {
	edges := []int{math.MinInt, math.MinInt + 1, -32, -1, 0, 1, 2, 3, 5, 6, 8, 31, 32, 33, 96, 255, 256, 257, 1001, math.MaxInt / 32, math.MaxInt - 32, math.MaxInt}
	for _, a := range edges {
		for _, b := range edges {
			x := sample()
			x.Frames[3].Segment, x.Frames[3].Page, x.Frames[3].Next = a, b, a
			returns(t, x, read(0, 1, 0, 1))
			x = sample()
			x.Heads[2], x.Frames[0].Next, x.Frames[3].Next, x.Frames[4].Next = a, b, a, b
			returns(t, x, read(0, 1, 32, 1))
			for _, c := range edges {
				returns(t, sample(), read(a, b, c, 1))
				returns(t, sample(), read(0, a, b, c))
				returns(t, sample(), write(1, a, b, "xy"))
				returns(t, sample(), api.PageAccess{Kind: a, Pool: b, Address: api.Address{Segment: c}})
			}
		}
	}
}

func returns(t *testing.T, x api.Paging, a api.PageAccess) {
	t.Helper()
	after, bytes, e := paging.Accessed(x, a)
	if e == api.OK && paging.CheckPaging(after) != api.OK {
		t.Fatalf("Accessed(%v, %v): %v", x, a, after)
	}
	if e != api.OK {
		nothing(t, "Accessed", after, len(bytes), e, e)
	}
}
