package spacemap_test

import (
	"encoding/binary"
	"math"
	"math/big"
	"slices"
	"strings"
	"testing"

	"midrange/api"
	"midrange/spacemap"
)

// sumOf is the checksum as a sum of powers: 1 is in front of the bytes, each of which counts one more.
func sumOf(bytes string) uint32 {
	all := new(big.Int).SetInt64(1)
	for _, b := range []byte(bytes) {
		all.Mul(all, big.NewInt(257))
		all.Add(all, big.NewInt(int64(b)+1))
	}
	return uint32(all.Mod(all, big.NewInt(4294967291)).Uint64())
}

// raw returns the bytes of an entry, right or not.
func raw(kind, segment, page, count, unit, at, number int) string {
	out := []byte{byte(kind)}
	out = binary.BigEndian.AppendUint16(out, uint16(segment))
	out = append(out, byte(page), byte(count), byte(unit))
	out = binary.BigEndian.AppendUint16(out, uint16(at))
	out = binary.BigEndian.AppendUint32(out, uint32(number))
	return string(binary.BigEndian.AppendUint32(out, sumOf(string(out))))
}

// rawOf returns the bytes of entries, numbered from first on.
func rawOf(first int, l ...api.MapEntry) string {
	var log string
	for i, y := range l {
		x := y.Extent
		log += raw(y.Kind, x.Segment, x.Page, x.Count, x.Unit, x.At, first+i)
	}
	return log
}

// P7.5: example 3, and the bytes of entries.
func TestBytes(t *testing.T) {
	for _, x := range []struct {
		l    []api.MapEntry
		want string
	}{
		{nil, ""},
		{[]api.MapEntry{commit()}, "\x02\x00\x00\x00\x00\x00\x00\x00\x00\x00\x00\x00\xd2\x3b\x2d\x77"},
		{[]api.MapEntry{add(1000, 1, 7, 3, 23), take(258, 7, 1, 2, 29)}, "\x00\x03\xe8\x01\x07\x03\x00\x17\x00\x00\x00\x00" + sumText("\x00\x03\xe8\x01\x07\x03\x00\x17\x00\x00\x00\x00") + "\x01\x01\x02\x07\x01\x02\x00\x1d\x00\x00\x00\x01" + sumText("\x01\x01\x02\x07\x01\x02\x00\x1d\x00\x00\x00\x01")},
	} {
		if log, e := spacemap.LogOf(x.l); log != x.want || e != api.OK {
			t.Errorf("LogOf(%v): % x, %v, not % x", x.l, log, e, x.want)
		}
	}
	log, e := spacemap.LogOf(slices.Repeat([]api.MapEntry{commit()}, 200))
	if len(log) != 3200 || e != api.OK || log != rawOf(0, slices.Repeat([]api.MapEntry{commit()}, 200)...) {
		t.Errorf("200 entries: % x, %v", log, e)
	}
}

func sumText(bytes string) string {
	return string(binary.BigEndian.AppendUint32(nil, sumOf(bytes)))
}

// edgeExtents are extents at the limits of their fields.
func edgeExtents() []api.MapExtent {
	return []api.MapExtent{extent(1, 0, 1, 0, 0), extent(1000, 0, 1, 0, 0), extent(1, 7, 1, 0, 0), extent(1, 0, 8, 0, 0), extent(1, 5, 3, 0, 0), extent(1, 0, 1, 3, 0), extent(1, 0, 1, 0, 29), extent(1, 0, 8, 0, 22), extent(1000, 3, 5, 3, 25)}
}

// wrongExtents are extents out of the limits of their fields.
func wrongExtents() []api.MapExtent {
	l := []api.MapExtent{{}, extent(0, 0, 1, 0, 0), extent(1001, 0, 1, 0, 0), extent(1, 8, 1, 0, 0), extent(1, 7, 2, 0, 0), extent(1, 0, 9, 0, 0), extent(1, 0, 0, 0, 0), extent(1, 0, 1, 4, 0), extent(1, 0, 1, 0, 30), extent(1, 0, 2, 0, 29), extent(1, 0, 8, 0, 23)}
	for _, n := range []int{-1, math.MinInt, math.MaxInt, 1 << 40} {
		l = append(l, extent(n, 0, 1, 0, 0), extent(1, n, 1, 0, 0), extent(1, 0, n, 0, 0), extent(1, 0, 1, n, 0), extent(1, 0, 1, 0, n), extent(n, n, n, n, n))
	}
	return l
}

// P7.5: entries that have bytes, and those that do not.
func TestRightAndWrongEntries(t *testing.T) {
	for _, x := range edgeExtents() {
		for _, kind := range []int{api.MapAdd, api.MapTake} {
			l := []api.MapEntry{commit(), {Kind: kind, Extent: x}}
			log, e := spacemap.LogOf(l)
			if log != rawOf(0, l...) || e != api.OK {
				t.Errorf("LogOf(%v): % x, %v", l, log, e)
			}
			back, n, e := spacemap.EntriesIn(log)
			if !slices.Equal(back, l) || n != 1 || e != api.OK {
				t.Errorf("EntriesIn of %v: %v, %d, %v", l, back, n, e)
			}
		}
	}
	isWrong := func(want api.Errno, l ...api.MapEntry) {
		t.Helper()
		if log, e := spacemap.LogOf(l); log != "" || e != want {
			t.Errorf("LogOf(%v): % x, %v, not %v", l, log, e, want)
		}
	}
	for _, x := range wrongExtents() {
		isWrong(api.ErrRange, api.MapEntry{Kind: api.MapAdd, Extent: x})
		isWrong(api.ErrRange, commit(), api.MapEntry{Kind: api.MapTake, Extent: x}, api.MapEntry{Kind: 9})
		for _, kind := range []int{-1, 3, math.MaxInt, math.MinInt, 256} {
			isWrong(api.ErrKind, api.MapEntry{Kind: kind, Extent: x})
		}
		if x != (api.MapExtent{}) {
			isWrong(api.ErrForm, api.MapEntry{Kind: api.MapCommit, Extent: x})
		}
	}
	isWrong(api.ErrForm, api.MapEntry{Kind: api.MapCommit, Extent: extent(1, 0, 1, 0, 0)})
	isWrong(api.ErrForm, api.MapEntry{Kind: api.MapCommit, Extent: extent(0, 0, 0, 0, 1)}, api.MapEntry{Kind: 3})
	isWrong(api.ErrLarge, slices.Repeat([]api.MapEntry{commit()}, 201)...)
	isWrong(api.ErrLarge, slices.Repeat([]api.MapEntry{{Kind: -1}}, 201)...)
}

// P7.5: whole entries, and how many of them belong to groups.
func TestEntriesIn(t *testing.T) {
	one, two, end := add(1, 0, 2, 0, 0), take(3, 4, 1, 2, 7), commit()
	good := rawOf(0, one, end, two)
	for i, x := range []struct {
		log     string
		want    []api.MapEntry
		grouped int
	}{
		{"", nil, 0}, {rawOf(0, end), []api.MapEntry{end}, 1}, {rawOf(0, one), []api.MapEntry{one}, 0}, {rawOf(0, one, two), []api.MapEntry{one, two}, 0},
		{good, []api.MapEntry{one, end, two}, 2}, {rawOf(0, end, end, one), []api.MapEntry{end, end, one}, 2}, {rawOf(0, end, one, two, end), []api.MapEntry{end, one, two, end}, 4},
		// Cut off.
		{good[:47], []api.MapEntry{one, end}, 2}, {good[:33], []api.MapEntry{one, end}, 2}, {good[:31], []api.MapEntry{one}, 0}, {good[:15], nil, 0}, {good + "\x00", []api.MapEntry{one, end, two}, 2},
		// Another number.
		{rawOf(1, one, end), nil, 0}, {rawOf(0, one) + rawOf(0, end), []api.MapEntry{one}, 0}, {rawOf(0, one) + rawOf(2, end), []api.MapEntry{one}, 0}, {rawOf(0, one) + rawOf(257, end), []api.MapEntry{one}, 0}, {rawOf(1<<24, one), nil, 0}, {rawOf(1<<16, one), nil, 0},
		// Another checksum.
		{good[:15] + "x" + good[16:], nil, 0}, {good[:16] + good[28:32] + good[16:28], []api.MapEntry{one}, 0}, {good[:32] + strings.Repeat("\x00", 16), []api.MapEntry{one, end}, 2},
		// Kinds and extents that are wrong; what follows is not read.
		{rawOf(0, end) + raw(3, 0, 0, 0, 0, 0, 1) + rawOf(2, end), []api.MapEntry{end}, 1}, {raw(255, 1, 0, 1, 0, 0, 0), nil, 0},
		{rawOf(0, end) + raw(2, 1, 0, 1, 0, 0, 1) + rawOf(2, end), []api.MapEntry{end}, 1}, {raw(2, 0, 0, 0, 0, 1, 0), nil, 0}, {raw(2, 0, 1, 0, 0, 0, 0), nil, 0},
		{raw(0, 0, 0, 1, 0, 0, 0), nil, 0}, {raw(1, 1001, 0, 1, 0, 0, 0), nil, 0}, {raw(0, 65535, 0, 1, 0, 0, 0), nil, 0}, {raw(0, 1, 8, 1, 0, 0, 0), nil, 0}, {raw(0, 1, 255, 2, 0, 0, 0), nil, 0}, {raw(0, 1, 0, 0, 0, 0, 0), nil, 0}, {raw(1, 1, 1, 8, 0, 0, 0), nil, 0}, {raw(0, 1, 0, 1, 4, 0, 0), nil, 0}, {raw(1, 1, 0, 1, 0, 30, 0), nil, 0}, {raw(1, 1, 0, 2, 0, 29, 0), nil, 0}, {raw(1, 1, 0, 1, 0, 65535, 0), nil, 0}, {raw(0, 0, 0, 0, 0, 0, 0), nil, 0}, {raw(1, 1, 0, 1, 0, 256, 0), nil, 0},
	} {
		l, n, e := spacemap.EntriesIn(x.log)
		if !slices.Equal(l, x.want) || n != x.grouped || e != api.OK {
			t.Errorf("%d: %v, %d, %v, not %v, %d", i, l, n, e, x.want, x.grouped)
		}
	}
}

// P7.5: logs of the greatest size, and of a greater one.
func TestLongLogs(t *testing.T) {
	all := slices.Repeat([]api.MapEntry{commit()}, 200)
	log := rawOf(0, all...)
	if l, n, e := spacemap.EntriesIn(log); !slices.Equal(l, all) || n != 200 || e != api.OK {
		t.Errorf("200 entries: %v, %d, %v", l, n, e)
	}
	for _, more := range []string{log + "x", strings.Repeat("x", 3201), rawOf(0, append(all, commit())...)} {
		if l, n, e := spacemap.EntriesIn(more); len(l) != 0 || n != 0 || e != api.ErrLarge {
			t.Errorf("%d bytes: %v, %d, %v", len(more), l, n, e)
		}
		m, n, e := spacemap.Recovered(mapOf([]int{1}), more)
		isError(t, "Recovered", m, n, e, api.ErrLarge)
	}
	if m, n, e := spacemap.Recovered(two(), log); !same(m, two()) || n != 200 || e != api.OK {
		t.Errorf("Recovered: %v, %d, %v", m, n, e)
	}
}

// pair has five pages of segment 1 in two extents, and one of segment 2; free are the place 3 of unit 0, and all but the first two ones of unit 1.
func pair() api.SpaceMap {
	return mapOf([]int{5, 6}, extent(1, 0, 3, 0, 0), extent(1, 3, 2, 1, 0), extent(2, 0, 1, 0, 4))
}

// P7.6: groups that can be applied.
func TestRecovered(t *testing.T) {
	first, second, third := extent(1, 0, 3, 0, 0), extent(1, 3, 2, 1, 0), extent(2, 0, 1, 0, 4)
	end := commit()
	for i, x := range []struct {
		l      []api.MapEntry
		want   []api.MapExtent
		groups int
	}{
		{nil, []api.MapExtent{first, second, third}, 0}, {[]api.MapEntry{end, end}, []api.MapExtent{first, second, third}, 2},
		// Entries without a MapCommit behind them are not looked at.
		{[]api.MapEntry{take(1, 3, 2, 1, 0)}, []api.MapExtent{first, second, third}, 0}, {[]api.MapEntry{end, take(9, 0, 1, 0, 0)}, []api.MapExtent{first, second, third}, 1},
		{[]api.MapEntry{take(1, 3, 2, 1, 0), end, take(1, 0, 1, 0, 0)}, []api.MapExtent{first, third}, 1},
		// Extents are joined, whatever the entries were.
		{[]api.MapEntry{add(1, 5, 1, 1, 2), end}, []api.MapExtent{first, extent(1, 3, 3, 1, 0), third}, 1}, {[]api.MapEntry{add(1, 5, 1, 1, 2), add(1, 6, 2, 1, 3), end}, []api.MapExtent{first, extent(1, 3, 5, 1, 0), third}, 1},
		{[]api.MapEntry{add(2, 1, 1, 0, 3), add(1, 5, 2, 1, 4), end}, []api.MapExtent{first, second, extent(1, 5, 2, 1, 4), third, extent(2, 1, 1, 0, 3)}, 1},
		{[]api.MapEntry{add(1000, 0, 1, 1, 2), end, add(5, 0, 1, 1, 3), add(5, 1, 1, 1, 4), end}, []api.MapExtent{first, second, third, extent(5, 0, 2, 1, 3), extent(1000, 0, 1, 1, 2)}, 2},
		// The last pages, in any order and in any parts, also across extents that were joined.
		{[]api.MapEntry{take(1, 3, 2, 1, 0), end}, []api.MapExtent{first, third}, 1}, {[]api.MapEntry{take(1, 4, 1, 1, 1), end}, []api.MapExtent{first, extent(1, 3, 1, 1, 0), third}, 1},
		{[]api.MapEntry{take(1, 1, 2, 0, 1), take(1, 3, 2, 1, 0), end}, []api.MapExtent{extent(1, 0, 1, 0, 0), third}, 1}, {[]api.MapEntry{take(1, 4, 1, 1, 1), take(1, 2, 1, 0, 2), take(1, 3, 1, 1, 0), end}, []api.MapExtent{extent(1, 0, 2, 0, 0), third}, 1},
		{[]api.MapEntry{add(1, 5, 1, 1, 2), take(1, 4, 2, 1, 1), end}, []api.MapExtent{first, extent(1, 3, 1, 1, 0), third}, 1}, {[]api.MapEntry{take(2, 0, 1, 0, 4), end}, []api.MapExtent{first, second}, 1},
		// What was taken can be placed again, and its places are free.
		{[]api.MapEntry{take(2, 0, 1, 0, 4), add(1, 5, 2, 0, 3), add(2, 0, 1, 1, 5), end}, []api.MapExtent{first, second, extent(1, 5, 2, 0, 3), extent(2, 0, 1, 1, 5)}, 1},
		{[]api.MapEntry{take(1, 3, 2, 1, 0), end, add(1, 3, 1, 0, 3), end}, []api.MapExtent{extent(1, 0, 4, 0, 0), third}, 2}, {[]api.MapEntry{take(1, 4, 1, 1, 1), add(1, 4, 2, 1, 1), end}, []api.MapExtent{first, extent(1, 3, 3, 1, 0), third}, 1},
	} {
		m, n, e := spacemap.Recovered(pair(), rawOf(0, x.l...))
		if !same(m, mapOf([]int{5, 6}, x.want...)) || n != x.groups || e != api.OK {
			t.Errorf("%d: %v, %d, %v, not %v, %d", i, m, n, e, x.want, x.groups)
		}
	}
}

// P7.6: groups that cannot be applied.
func TestClashes(t *testing.T) {
	end := commit()
	for i, l := range [][]api.MapEntry{
		// Pages that are not those behind the last one.
		{add(1, 6, 1, 1, 2), end}, {add(1, 4, 1, 1, 2), end}, {add(1, 0, 1, 1, 2), end}, {add(3, 1, 1, 1, 2), end}, {add(3, 1, 1, 1, 2), add(3, 0, 1, 1, 3), end}, {add(2, 0, 1, 1, 2), end},
		// Places that are not free, or that there are not.
		{add(3, 0, 1, 0, 0), end}, {add(3, 0, 2, 0, 3), end}, {add(3, 0, 2, 1, 1), end}, {add(1, 5, 1, 1, 1), end}, {add(3, 0, 1, 2, 0), end}, {add(3, 0, 1, 3, 0), end}, {add(3, 0, 1, 0, 5), end}, {add(3, 0, 3, 1, 4), end}, {add(3, 0, 1, 1, 2), add(4, 0, 1, 1, 2), end},
		// Pages that do not stand there.
		{take(1, 4, 1, 1, 0), end}, {take(1, 4, 1, 0, 1), end}, {take(2, 4, 1, 1, 1), end}, {take(1, 4, 2, 1, 1), end}, {take(1, 5, 1, 1, 2), end}, {take(3, 0, 1, 1, 2), end}, {take(1, 2, 3, 0, 2), end}, {take(1, 4, 1, 2, 0), end}, {take(1, 4, 1, 0, 6), end}, {take(1, 3, 3, 1, 0), end}, {take(1, 4, 1, 1, 1), take(1, 4, 1, 1, 1), end}, {take(1, 4, 1, 1, 29), end},
		// Pages that are not the last ones when the group ends.
		{take(1, 3, 1, 1, 0), end}, {take(1, 0, 3, 0, 0), end}, {take(1, 0, 1, 0, 0), take(1, 4, 1, 1, 1), end}, {take(1, 3, 1, 1, 0), end, take(1, 4, 1, 1, 1), end}, {take(1, 1, 1, 0, 1), add(1, 5, 1, 1, 2), end}, {take(1, 1, 1, 0, 1), add(1, 1, 1, 0, 1), end}, {take(1, 3, 1, 1, 0), add(1, 4, 1, 1, 2), take(1, 4, 1, 1, 1), end},
		// A later group, behind one that can be applied.
		{end, add(1, 6, 1, 1, 2), end}, {take(1, 3, 2, 1, 0), end, take(1, 3, 2, 1, 0), end}, {add(3, 0, 1, 1, 2), end, end, add(3, 0, 1, 1, 3), end, add(4, 0, 1, 1, 4), end},
	} {
		m, n, e := spacemap.Recovered(pair(), rawOf(0, l...))
		if !isNothing(m) || n != 0 || e != api.ErrClash {
			t.Errorf("%d: %v: %v, %d, %v", i, l, m, n, e)
		}
	}
}
