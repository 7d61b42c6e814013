package segment_test

import (
	"math"
	"slices"
	"strings"
	"testing"

	"midrange/api"
	"midrange/segment"
)

const page = 32

// paged returns so many pages that begin with a text.
func paged(pages int, text string) string {
	return text + strings.Repeat("\x00", pages*page-len(text))
}

// seg returns a segment of so many pages that begin with a text.
func seg(number, pages int, text string) api.Segment {
	return api.Segment{Number: number, Bytes: paged(pages, text)}
}

func storeOf(next int, l ...api.Segment) api.Store {
	return api.Store{Segments: l, Next: next}
}

func address(number, offset int) api.Address {
	return api.Address{Segment: number, Offset: offset}
}

// rowOf returns so many segments of one page, with the numbers from one on.
func rowOf(from, n int) []api.Segment {
	var l []api.Segment
	for i := range n {
		l = append(l, seg(from+i, 1, ""))
	}
	return l
}

func same(a, b api.Store) bool {
	return a.Next == b.Next && slices.Equal(a.Segments, b.Segments)
}

func isNothing(s api.Store) bool {
	return same(s, api.Store{})
}

func copyOf(s api.Store) api.Store {
	return api.Store{Segments: slices.Clone(s.Segments), Next: s.Next}
}

// threeSegments has live segments 2, 4 and 5; 1, 3 and 6 are destroyed.
func threeSegments() api.Store {
	return storeOf(7, seg(2, 1, "two"), seg(4, 8, "four"), seg(5, 3, "five"))
}

var rightStores = []struct {
	s     api.Store
	pages int
}{
	{storeOf(1), 0}, {storeOf(1001), 0}, {storeOf(500), 0}, {storeOf(2, seg(1, 1, "")), 1}, {storeOf(2, seg(1, 8, "")), 8}, {storeOf(3, seg(1, 2, "a"), seg(2, 7, "b")), 9}, {threeSegments(), 12},
	{storeOf(1001, seg(1000, 4, "")), 4}, {storeOf(1001, seg(1, 1, ""), seg(1000, 5, "")), 6}, {storeOf(1001, seg(1, 3, "")), 3}, {storeOf(11, rowOf(1, 10)...), 10}, {storeOf(1001, rowOf(991, 10)...), 10},
	{api.Store{Segments: []api.Segment{{Number: 1, Bytes: strings.Repeat("\xff", 256)}}, Next: 2}, 8},
}

var wrongStores = []struct {
	s  api.Store
	at int
	e  api.Errno
}{
	{storeOf(12, rowOf(1, 11)...), 0, api.ErrLarge}, {storeOf(0, rowOf(1, 11)...), 0, api.ErrLarge}, {storeOf(5, rowOf(1, 11)...), 0, api.ErrLarge}, {storeOf(12, make([]api.Segment, 11)...), 0, api.ErrLarge}, {storeOf(12, make([]api.Segment, 5000)...), 0, api.ErrLarge},
	{api.Store{}, 0, api.ErrRange}, {storeOf(-1), 0, api.ErrRange}, {storeOf(1002), 0, api.ErrRange}, {storeOf(math.MinInt), 0, api.ErrRange}, {storeOf(math.MaxInt), 0, api.ErrRange}, {storeOf(1002, seg(1, 1, "")), 0, api.ErrRange}, {storeOf(1002, seg(1, 1, ""), seg(1, 1, "")), 0, api.ErrRange}, {storeOf(0, seg(1, 1, ""), seg(2, 9, "")), 0, api.ErrRange},
	{storeOf(5, seg(0, 1, "")), 0, api.ErrRange}, {storeOf(5, seg(-1, 1, "")), 0, api.ErrRange}, {storeOf(1, seg(0, 1, "")), 0, api.ErrRange}, {storeOf(1, seg(1, 1, "")), 0, api.ErrRange}, {storeOf(5, seg(5, 1, "")), 0, api.ErrRange}, {storeOf(5, seg(6, 1, "")), 0, api.ErrRange}, {storeOf(5, seg(math.MinInt, 1, "")), 0, api.ErrRange}, {storeOf(5, seg(math.MaxInt, 1, "")), 0, api.ErrRange}, {storeOf(1001, seg(1001, 1, "")), 0, api.ErrRange},
	{storeOf(5, seg(1, 1, ""), seg(0, 1, "")), 1, api.ErrRange}, {storeOf(5, seg(1, 1, ""), seg(4, 1, ""), seg(5, 1, "")), 2, api.ErrRange}, {storeOf(5, seg(1, 1, ""), seg(5, 0, "")), 1, api.ErrRange}, {storeOf(10, rowOf(1, 10)...), 9, api.ErrRange}, {storeOf(5, api.Segment{}), 0, api.ErrRange},
	{storeOf(5, seg(1, 1, ""), seg(1, 1, "")), 1, api.ErrOrder}, {storeOf(5, seg(3, 1, ""), seg(2, 1, "")), 1, api.ErrOrder}, {storeOf(5, seg(1, 1, ""), seg(3, 1, ""), seg(2, 1, "")), 2, api.ErrOrder}, {storeOf(5, seg(3, 1, ""), seg(1, 1, ""), seg(2, 1, "")), 1, api.ErrOrder}, {storeOf(5, seg(2, 1, ""), seg(2, 0, "")), 1, api.ErrOrder}, {storeOf(5, seg(2, 1, ""), seg(1, 9, "")), 1, api.ErrOrder},
	{storeOf(5, api.Segment{Number: 1}), 0, api.ErrLength}, {storeOf(5, seg(1, 9, "")), 0, api.ErrLength}, {storeOf(5, api.Segment{Number: 1, Bytes: "x"}), 0, api.ErrLength}, {storeOf(5, api.Segment{Number: 1, Bytes: paged(1, "")[1:]}), 0, api.ErrLength}, {storeOf(5, api.Segment{Number: 1, Bytes: paged(1, "") + "x"}), 0, api.ErrLength}, {storeOf(5, api.Segment{Number: 1, Bytes: paged(8, "") + "x"}), 0, api.ErrLength}, {storeOf(5, api.Segment{Number: 1, Bytes: paged(8, "")[1:]}), 0, api.ErrLength}, {storeOf(5, seg(1, 1000, "")), 0, api.ErrLength},
	{storeOf(5, seg(1, 1, ""), seg(2, 2, ""), seg(4, 0, "")), 2, api.ErrLength}, {storeOf(5, seg(1, 1, ""), seg(2, 9, ""), seg(0, 1, "")), 1, api.ErrLength}, {storeOf(5, seg(1, 0, ""), seg(9, 1, "")), 0, api.ErrLength}, {storeOf(5, seg(3, 0, ""), seg(2, 1, "")), 0, api.ErrLength}, {storeOf(11, append(rowOf(1, 9), seg(10, 9, ""))...), 9, api.ErrLength},
}

// P4.1: right stores, and how many pages they have.
func TestRightStores(t *testing.T) {
	for _, x := range rightStores {
		if at, e := segment.CheckStore(x.s); at != 0 || e != api.OK {
			t.Errorf("CheckStore(%v): %d, %v", x.s, at, e)
		}
		if n, e := segment.PageCount(x.s); n != x.pages || e != api.OK {
			t.Errorf("PageCount(%v): %d, %v, not %d", x.s, n, e, x.pages)
		}
	}
	full := storeOf(11)
	for i := range 10 {
		full.Segments = append(full.Segments, seg(i+1, 8, ""))
	}
	if n, e := segment.PageCount(full); n != 80 || e != api.OK {
		t.Errorf("PageCount of the largest store: %d, %v", n, e)
	}
}

// P4.1: wrong stores.
func TestWrongStores(t *testing.T) {
	for _, x := range wrongStores {
		if at, e := segment.CheckStore(x.s); at != x.at || e != x.e {
			t.Errorf("CheckStore(%v): %d, %v, not %d, %v", x.s, at, e, x.at, x.e)
		}
		if n, e := segment.PageCount(x.s); n != 0 || e != x.e {
			t.Errorf("PageCount(%v): %d, %v, not %v", x.s, n, e, x.e)
		}
	}
}

// P4.2 to P4.6: the error of the store comes before all others, without its index.
func TestErrorsOfStores(t *testing.T) {
	for _, x := range wrongStores {
		for _, n := range []int{-1, 1} {
			storeComesFirst(t, x.s, n, x.e)
		}
		for _, l := range [][]api.SegOp{nil, {{Kind: -1}}, {{Pages: 1}}, make([]api.SegOp, 41)} {
			s, n, e := segment.Applied(x.s, l)
			nothing(t, "Applied", s, n, e, x.e)
		}
	}
}

// storeComesFirst calls the functions with a wrong store and a number that is wrong, or right for some stores.
func storeComesFirst(t *testing.T, wrong api.Store, number int, want api.Errno) {
	t.Helper()
	s, n, e := segment.Created(wrong, number)
	nothing(t, "Created", s, n, e, want)
	s, e = segment.Extended(wrong, number, number)
	nothing(t, "Extended", s, 0, e, want)
	s, e = segment.Truncated(wrong, number, number)
	nothing(t, "Truncated", s, 0, e, want)
	s, e = segment.Destroyed(wrong, number)
	nothing(t, "Destroyed", s, 0, e, want)
	s, e = segment.Written(wrong, address(number, number), "")
	nothing(t, "Written", s, 0, e, want)
	text, e := segment.ReadAt(wrong, address(number, number), number)
	nothing(t, "ReadAt", api.Store{}, len(text), e, want)
	l, e := segment.Undo(wrong, api.SegOp{Kind: number, Segment: number, Pages: number})
	nothing(t, "Undo", api.Store{}, len(l), e, want)
}

func nothing(t *testing.T, call string, s api.Store, n int, got, want api.Errno) {
	t.Helper()
	if !isNothing(s) || n != 0 || got != want {
		t.Errorf("%s: %v, %d, %v, not %v", call, s, n, got, want)
	}
}

// P4.2: segments that are created.
func TestCreated(t *testing.T) {
	for _, x := range []struct {
		s      api.Store
		pages  int
		want   api.Store
		number int
		e      api.Errno
	}{
		{storeOf(1), 2, storeOf(2, seg(1, 2, "")), 1, api.OK}, {storeOf(1), 1, storeOf(2, seg(1, 1, "")), 1, api.OK}, {storeOf(9), 8, storeOf(10, seg(9, 8, "")), 9, api.OK}, {storeOf(1000), 3, storeOf(1001, seg(1000, 3, "")), 1000, api.OK},
		{threeSegments(), 2, storeOf(8, append(threeSegments().Segments, seg(7, 2, ""))...), 7, api.OK}, {storeOf(11, rowOf(1, 9)...), 1, storeOf(12, append(rowOf(1, 9), seg(11, 1, ""))...), 11, api.OK}, {storeOf(1000, rowOf(991, 9)...), 1, storeOf(1001, rowOf(991, 10)...), 1000, api.OK},
		{storeOf(1), 0, api.Store{}, 0, api.ErrRange}, {storeOf(1), -1, api.Store{}, 0, api.ErrRange}, {storeOf(1), 9, api.Store{}, 0, api.ErrRange}, {storeOf(1), math.MaxInt, api.Store{}, 0, api.ErrRange}, {storeOf(1), math.MinInt, api.Store{}, 0, api.ErrRange},
		{storeOf(11, rowOf(1, 10)...), 1, api.Store{}, 0, api.ErrFull}, {storeOf(1001), 1, api.Store{}, 0, api.ErrFull}, {storeOf(1001, seg(3, 1, "")), 8, api.Store{}, 0, api.ErrFull}, {storeOf(1001, rowOf(991, 10)...), 1, api.Store{}, 0, api.ErrFull}, {storeOf(900, rowOf(1, 10)...), 1, api.Store{}, 0, api.ErrFull},
		{storeOf(1001), 0, api.Store{}, 0, api.ErrRange}, {storeOf(11, rowOf(1, 10)...), 9, api.Store{}, 0, api.ErrRange},
	} {
		if s, n, e := segment.Created(x.s, x.pages); !same(s, x.want) || n != x.number || e != x.e {
			t.Errorf("Created(%v, %d): %v, %d, %v, not %v, %d, %v", x.s, x.pages, s, n, e, x.want, x.number, x.e)
		}
	}
}

// P4.2: segments that are destroyed.
func TestDestroyed(t *testing.T) {
	l := threeSegments().Segments
	for _, x := range []struct {
		number int
		want   api.Store
	}{{2, storeOf(7, l[1], l[2])}, {4, storeOf(7, l[0], l[2])}, {5, storeOf(7, l[0], l[1])}} {
		if s, e := segment.Destroyed(threeSegments(), x.number); !same(s, x.want) || e != api.OK {
			t.Errorf("Destroyed(%d): %v, %v", x.number, s, e)
		}
	}
	if s, e := segment.Destroyed(storeOf(1001, seg(1000, 1, "")), 1000); !same(s, storeOf(1001)) || e != api.OK {
		t.Errorf("Destroyed of the last one: %v, %v", s, e)
	}
}

// P4.2 to P4.4, P4.7: the errors of segment numbers come before those of sizes and bytes.
func TestSegmentNumbers(t *testing.T) {
	for _, x := range []struct {
		s      api.Store
		number int
		e      api.Errno
	}{
		{threeSegments(), 1, api.ErrDestroyed}, {threeSegments(), 3, api.ErrDestroyed}, {threeSegments(), 6, api.ErrDestroyed}, {storeOf(1001), 1, api.ErrDestroyed}, {storeOf(1001), 1000, api.ErrDestroyed}, {storeOf(2), 1, api.ErrDestroyed},
		{threeSegments(), 0, api.ErrMissing}, {threeSegments(), -1, api.ErrMissing}, {threeSegments(), 7, api.ErrMissing}, {threeSegments(), 8, api.ErrMissing}, {storeOf(1), 1, api.ErrMissing}, {storeOf(1), 0, api.ErrMissing}, {storeOf(1001), 1001, api.ErrMissing}, {storeOf(1001), 0, api.ErrMissing}, {storeOf(1001), math.MaxInt, api.ErrMissing}, {storeOf(1001), math.MinInt, api.ErrMissing},
	} {
		s, e := segment.Destroyed(x.s, x.number)
		nothing(t, "Destroyed", s, 0, e, x.e)
		for _, n := range []int{-1, 0, 1, 9} {
			s, e = segment.Extended(x.s, x.number, n)
			nothing(t, "Extended", s, 0, e, x.e)
			s, e = segment.Truncated(x.s, x.number, n)
			nothing(t, "Truncated", s, 0, e, x.e)
			s, e = segment.Written(x.s, address(x.number, n), "")
			nothing(t, "Written", s, 0, e, x.e)
			text, e := segment.ReadAt(x.s, address(x.number, n), n)
			nothing(t, "ReadAt", api.Store{}, len(text), e, x.e)
		}
	}
}

// P4.3: segments that are extended and truncated, by all numbers of pages.
func TestSizes(t *testing.T) {
	for have := 1; have <= 8; have++ {
		bytes := strings.Repeat("0123456789abcdefABCDEFGHIJKLMNOP", have)
		s := storeOf(9, seg(1, 1, "before"), api.Segment{Number: 5, Bytes: bytes}, seg(6, 2, "behind"))
		for pages := -1; pages <= 10; pages++ {
			want, e := api.Store{}, api.OK
			switch {
			case pages < 1 || pages > 8:
				e = api.ErrRange
			case have+pages > 8:
				e = api.ErrFull
			default:
				want = storeOf(9, s.Segments[0], api.Segment{Number: 5, Bytes: bytes + paged(pages, "")}, s.Segments[2])
			}
			if got, f := segment.Extended(s, 5, pages); !same(got, want) || f != e {
				t.Errorf("Extended of %d pages by %d: %v, %v, not %v, %v", have, pages, got, f, want, e)
			}
			want, e = api.Store{}, api.ErrRange
			if pages >= 1 && pages <= have {
				want, e = storeOf(9, s.Segments[0], api.Segment{Number: 5, Bytes: bytes[:32*pages]}, s.Segments[2]), api.OK
			}
			if got, f := segment.Truncated(s, 5, pages); !same(got, want) || f != e {
				t.Errorf("Truncated of %d pages to %d: %v, %v, not %v, %v", have, pages, got, f, want, e)
			}
		}
		for _, pages := range []int{math.MinInt, math.MaxInt, math.MaxInt - 1, math.MaxInt / 32, math.MaxInt/32 + 2} {
			got, e := segment.Extended(s, 5, pages)
			nothing(t, "Extended", got, 0, e, api.ErrRange)
			got, e = segment.Truncated(s, 5, pages)
			nothing(t, "Truncated", got, 0, e, api.ErrRange)
		}
	}
}

// P4.4: bytes that are read and written, at all places of a segment.
func TestBytes(t *testing.T) {
	s := storeOf(9, seg(1, 1, "before"), api.Segment{Number: 5, Bytes: strings.Repeat("0123456789abcdefABCDEFGHIJKLMNOP", 2)}, seg(6, 2, "behind"))
	before := copyOf(s)
	old := s.Segments[1].Bytes
	data := "a\x00\xffb\xc3\xa9 " + strings.Repeat("x", 60) // more than one byte of a letter, too
	for at := -2; at <= 67; at++ {
		for n := range 68 {
			text, e := segment.ReadAt(s, address(5, at), n)
			after, f := segment.Written(s, address(5, at), data[:n])
			if at < 0 || at > 64 || at+n > 64 {
				nothing(t, "ReadAt", api.Store{}, len(text), e, api.ErrRange)
				nothing(t, "Written", after, 0, f, api.ErrRange)
				continue
			}
			if text != old[at:at+n] || e != api.OK {
				t.Errorf("ReadAt(%d, %d): %q, %v", at, n, text, e)
			}
			bytes := []byte(old)
			copy(bytes[at:], data[:n])
			want := storeOf(9, s.Segments[0], api.Segment{Number: 5, Bytes: string(bytes)}, s.Segments[2])
			if !same(after, want) || f != api.OK || !same(s, before) {
				t.Errorf("Written(%d, %q): %v, %v", at, data[:n], after, f)
			}
		}
	}
}

// P4.4: bytes that are not in the segment.
func TestBytesOutside(t *testing.T) {
	s := threeSegments()
	for _, x := range []struct{ number, at, n int }{
		{2, -1, 0}, {2, -1, 1}, {2, 0, -1}, {2, 32, -1}, {2, 33, -1}, {2, 33, 0}, {2, 32, 1}, {2, 0, 33}, {2, 31, 2}, {4, 256, 1}, {4, 257, 0}, {4, 0, 257}, {5, 96, 1}, {5, 97, 0}, {2, 1, -1}, {2, 16, -16},
		{2, 1, math.MaxInt}, {2, 0, math.MaxInt}, {2, math.MaxInt, 1}, {2, math.MaxInt, 0}, {2, math.MaxInt, math.MaxInt}, {2, math.MinInt, math.MinInt}, {2, math.MinInt, math.MaxInt}, {2, 16, math.MinInt}, {2, math.MinInt, 0}, {2, math.MaxInt, math.MinInt},
	} {
		text, e := segment.ReadAt(s, address(x.number, x.at), x.n)
		nothing(t, "ReadAt", api.Store{}, len(text), e, api.ErrRange)
		if x.n >= 0 && x.n < 1000 {
			after, e := segment.Written(s, address(x.number, x.at), strings.Repeat("x", x.n))
			nothing(t, "Written", after, 0, e, api.ErrRange)
		}
	}
	for _, x := range []struct{ number, at int }{{2, 0}, {2, 7}, {2, 32}, {4, 256}, {5, 96}} {
		if text, e := segment.ReadAt(s, address(x.number, x.at), 0); text != "" || e != api.OK {
			t.Errorf("ReadAt of no bytes at %v: %q, %v", x, text, e)
		}
		if after, e := segment.Written(s, address(x.number, x.at), ""); !same(after, s) || e != api.OK {
			t.Errorf("Written of no bytes at %v: %v, %v", x, after, e)
		}
	}
}

// Examples 1 and 2.
func TestExamples(t *testing.T) {
	s, n, e := segment.Created(storeOf(1), 2)
	if !same(s, storeOf(2, seg(1, 2, ""))) || n != 1 || e != api.OK {
		t.Errorf("Created: %v, %d, %v", s, n, e)
	}
	gone, e := segment.Destroyed(s, 1)
	if !same(gone, storeOf(2)) || e != api.OK {
		t.Errorf("Destroyed: %v, %v", gone, e)
	}
	if again, n, e := segment.Created(gone, 2); !same(again, storeOf(3, seg(2, 2, ""))) || n != 2 || e != api.OK {
		t.Errorf("Created again: %v, %d, %v", again, n, e)
	}
	s, e = segment.Written(s, address(1, 30), "abcd")
	if text, f := segment.ReadAt(s, address(1, 28), 6); text != "\x00\x00abcd" || e != api.OK || f != api.OK {
		t.Errorf("Written: %v; ReadAt: %q, %v", e, text, f)
	}
}
