package disk_test

import (
	"math"
	"slices"
	"testing"

	"midrange/api"
	"midrange/disk"
)

// mixed is the exclusive or of sectors, given by their letters.
func mixed(letters string) string {
	bytes := []byte(zeros)
	for i := range len(letters) {
		for at := range bytes {
			bytes[at] ^= letters[i]
		}
	}
	return string(bytes)
}

// P6.3: what is read, or cannot be, sector by sector ("" if it cannot be).
func TestReading(t *testing.T) {
	for _, x := range []struct {
		d    api.Disk
		want []string
	}{
		{plain(2, active("ab")), []string{sector("a"), sector("b")}},
		{plain(2, fresh("ab")), []string{"", ""}},
		{plain(2, failed()), []string{"", ""}},
		{mirror(2, active("ab"), active("cd")), []string{sector("a"), sector("b")}},
		{mirror(2, active("ab"), failed()), []string{sector("a"), sector("b")}},
		{mirror(2, fresh("ab"), active("cd")), []string{sector("c"), sector("d")}},
		{mirror(2, failed(), active("cd")), []string{sector("c"), sector("d")}},
		{mirror(2, failed(), fresh("cd")), []string{"", ""}},
		{mirror(2, fresh("ab"), fresh("cd")), []string{"", ""}},
		{parity(2, active("ab"), active("cd"), active("ef")), []string{sector("c"), sector("e"), sector("b"), sector("f")}},
		{parity(2, failed(), active("cd"), active("ef")), []string{sector("c"), sector("e"), mixed("df"), sector("f")}},
		{parity(2, active("ab"), fresh("cd"), active("ef")), []string{mixed("ae"), sector("e"), sector("b"), sector("f")}},
		{parity(2, active("ab"), failed(), fresh("ef")), []string{"", "", sector("b"), ""}},
		{parity(2, failed(), active("cd"), failed()), []string{sector("c"), "", "", ""}},
		{parity(2, fresh("ab"), fresh("cd"), fresh("ef")), []string{"", "", "", ""}},
		{parity(1, active("a"), active("b"), failed(), active("c")), []string{sector("b"), mixed("abc"), sector("c")}},
	} {
		down := slices.Contains(x.want, "")
		for i, want := range x.want {
			s, e := disk.ReadSector(x.d, i)
			if s != want || (want == "") != (e == api.ErrDown) || want != "" && e != api.OK {
				t.Errorf("ReadSector(%v, %d): %q, %v, not %q", x.d, i, s, e, want)
			}
		}
		l, e := disk.SectorsOf(x.d)
		if down && (len(l) != 0 || e != api.ErrDown) || !down && (!slices.Equal(l, x.want) || e != api.OK) {
			t.Errorf("SectorsOf(%v): %q, %v, not %q", x.d, l, e, x.want)
		}
	}
}

// P6.4: the writes to units of single writes (none: it is not possible).
func TestWrites(t *testing.T) {
	x := sector("x")
	for _, c := range []struct {
		d      api.Disk
		number int
		want   []api.UnitWrite
	}{
		{plain(2, active("ab")), 1, []api.UnitWrite{unitWrite(0, 1, x)}},
		{plain(2, fresh("ab")), 0, []api.UnitWrite{unitWrite(0, 0, x)}},
		{plain(2, failed()), 0, nil},
		{mirror(2, active("ab"), active("ab")), 1, []api.UnitWrite{unitWrite(0, 1, x), unitWrite(1, 1, x)}},
		{mirror(2, failed(), active("ab")), 0, []api.UnitWrite{unitWrite(1, 0, x)}},
		{mirror(2, fresh("ab"), failed()), 1, []api.UnitWrite{unitWrite(0, 1, x)}},
		{mirror(2, fresh("ab"), fresh("ab")), 1, []api.UnitWrite{unitWrite(0, 1, x), unitWrite(1, 1, x)}},
		{mirror(2, failed(), failed()), 1, nil},
		{parity(2, active("ab"), active("cd"), active("ef")), 0, []api.UnitWrite{unitWrite(1, 0, x), unitWrite(0, 0, mixed("xe"))}},
		{parity(2, active("ab"), active("cd"), active("ef")), 3, []api.UnitWrite{unitWrite(2, 1, x), unitWrite(1, 1, mixed("xb"))}},
		{parity(2, active("ab"), failed(), active("ef")), 0, []api.UnitWrite{unitWrite(0, 0, mixed("xe"))}},
		{parity(2, active("ab"), failed(), active("ef")), 1, []api.UnitWrite{unitWrite(2, 0, x), unitWrite(0, 0, mixed("xae"))}},
		{parity(2, active("ab"), failed(), active("ef")), 2, []api.UnitWrite{unitWrite(0, 1, x)}},
		{parity(2, active("ab"), fresh("cd"), active("ef")), 0, []api.UnitWrite{unitWrite(1, 0, x), unitWrite(0, 0, mixed("xe"))}},
		{parity(2, active("ab"), fresh("cd"), active("ef")), 1, []api.UnitWrite{unitWrite(2, 0, x), unitWrite(0, 0, mixed("xae"))}},
		{parity(2, active("ab"), fresh("cd"), active("ef")), 2, []api.UnitWrite{unitWrite(0, 1, x), unitWrite(1, 1, mixed("xf"))}},
		{parity(2, failed(), failed(), active("ef")), 0, nil},
		{parity(2, failed(), fresh("cd"), failed()), 0, []api.UnitWrite{unitWrite(1, 0, x)}},
		{parity(2, active("ab"), failed(), failed()), 0, nil},
		{parity(2, active("ab"), fresh("cd"), failed()), 0, nil},
		{parity(2, fresh("ab"), active("cd"), failed()), 0, nil},
		{parity(2, fresh("ab"), failed(), active("ef")), 0, []api.UnitWrite{unitWrite(0, 0, mixed("xe"))}},
		{parity(2, fresh("ab"), fresh("cd"), active("ef")), 0, []api.UnitWrite{unitWrite(1, 0, x), unitWrite(0, 0, mixed("xe"))}},
		{parity(2, fresh("ab"), fresh("cd"), active("ef")), 1, nil},
		{parity(1, active("a"), active("b"), active("c"), failed()), 1, []api.UnitWrite{unitWrite(2, 0, x), unitWrite(0, 0, mixed("xac"))}},
	} {
		l := []api.SectorWrite{writeOf(c.number, "x")}
		all, e := disk.WritesFor(c.d, l)
		after, n, f := disk.WriteSectors(c.d, l)
		if c.want == nil {
			isError(t, "WriteSectors", after, f, api.ErrDown)
			if len(all) != 0 || e != api.ErrDown || n != 0 {
				t.Errorf("WritesFor(%v, %v): %v, %v; %d", c.d, l, all, e, n)
			}
			continue
		}
		want := cloneOf(c.d)
		for _, w := range c.want {
			want.Units[w.Unit].Sectors[w.Sector] = w.Bytes
		}
		isDisk(t, "WriteSectors", after, f, want)
		if !slices.Equal(all, c.want) || e != api.OK || n != 1 {
			t.Errorf("WritesFor(%v, %v): %v, %v, not %v; %d", c.d, l, all, e, c.want, n)
		}
	}
}

// P6.4: lists of writes, one after the other; what is written first is read for the parity later.
func TestListsOfWrites(t *testing.T) {
	d := parity(2, active("ab"), active("cd"), active("ef"))
	l := []api.SectorWrite{writeOf(0, "x"), writeOf(1, "y"), writeOf(0, "z"), writeOf(3, "w")}
	want := []api.UnitWrite{unitWrite(1, 0, sector("x")), unitWrite(0, 0, mixed("xe")), unitWrite(2, 0, sector("y")), unitWrite(0, 0, mixed("xy")), unitWrite(1, 0, sector("z")), unitWrite(0, 0, mixed("zy")), unitWrite(2, 1, sector("w")), unitWrite(1, 1, mixed("wb"))}
	if all, e := disk.WritesFor(d, l); !slices.Equal(all, want) || e != api.OK {
		t.Errorf("WritesFor: %v, %v", all, e)
	}
	after, n, e := disk.WriteSectors(d, l)
	isDisk(t, "WriteSectors", after, e, parity(2, api.DiskUnit{Sectors: []string{mixed("zy"), sector("b")}}, api.DiskUnit{Sectors: []string{sector("z"), mixed("wb")}}, active("yw")))
	if n != 4 {
		t.Errorf("WriteSectors: %d", n)
	}
	for _, x := range rightDisks {
		after, n, e := disk.WriteSectors(x.d, nil)
		isDisk(t, "WriteSectors of nothing", after, e, x.d)
		all, f := disk.WritesFor(x.d, nil)
		if n != 0 || len(all) != 0 || f != api.OK {
			t.Errorf("WritesFor of nothing: %d, %v, %v", n, all, f)
		}
	}
}

// P6.4: as many writes as may be, and more of them.
func TestManyWrites(t *testing.T) {
	d := mirror(2, active("ab"), active("cd"))
	l := slices.Repeat([]api.SectorWrite{writeOf(1, "x")}, 40)
	after, n, e := disk.WriteSectors(d, l)
	isDisk(t, "WriteSectors of 40", after, e, mirror(2, active("ax"), active("cx")))
	if all, e := disk.WritesFor(d, l); len(all) != 80 || n != 40 || e != api.OK {
		t.Errorf("WritesFor of 40: %v, %v, %d", all, e, n)
	}
	for _, wrong := range []api.SectorWrite{writeOf(1, "x"), {Sector: -1}, {}} {
		for _, n := range []int{41, 1000} {
			refused(t, d, slices.Repeat([]api.SectorWrite{wrong}, n), 0, api.ErrLarge)
			refused(t, plain(2, failed()), slices.Repeat([]api.SectorWrite{wrong}, n), 0, api.ErrLarge)
		}
	}
}

// refused says if a list of writes is not refused with an index and an error.
func refused(t *testing.T, d api.Disk, l []api.SectorWrite, at int, want api.Errno) {
	t.Helper()
	after, n, e := disk.WriteSectors(d, l)
	isError(t, "WriteSectors", after, e, want)
	if n != at {
		t.Errorf("WriteSectors(%v, %v): %d, not %d", d, l, n, at)
	}
	if all, e := disk.WritesFor(d, l); len(all) != 0 || e != want {
		t.Errorf("WritesFor(%v, %v): %v, %v, not %v", d, l, all, e, want)
	}
	for _, kept := range [][]int{nil, {0}, {-1}, {5, 5}} {
		after, e := disk.PowerFailed(d, l, kept)
		isError(t, "PowerFailed", after, e, want)
	}
}

// P6.4: writes with errors; ranges and lengths come first, write by write, then what is not possible.
func TestWrongWrites(t *testing.T) {
	good, none, short, long := writeOf(1, "x"), writeOf(4, "x"), api.SectorWrite{Sector: 1, Bytes: zeros[1:]}, api.SectorWrite{Sector: 1, Bytes: zeros + "x"}
	down := parity(2, active("ab"), failed(), fresh("ef"))
	for _, d := range []api.Disk{parity(2, active("ab"), active("cd"), active("ef")), mirror(4, active("abcd"), failed()), plain(4, failed()), down} {
		for _, x := range []struct {
			l  []api.SectorWrite
			at int
			e  api.Errno
		}{
			{[]api.SectorWrite{none}, 0, api.ErrRange}, {[]api.SectorWrite{{Sector: -1}}, 0, api.ErrRange}, {[]api.SectorWrite{{Sector: math.MaxInt, Bytes: zeros}}, 0, api.ErrRange}, {[]api.SectorWrite{{Sector: math.MinInt, Bytes: zeros}}, 0, api.ErrRange}, {[]api.SectorWrite{{Sector: 4, Bytes: "x"}}, 0, api.ErrRange},
			{[]api.SectorWrite{short}, 0, api.ErrLength}, {[]api.SectorWrite{long}, 0, api.ErrLength}, {[]api.SectorWrite{{}}, 0, api.ErrLength},
			{[]api.SectorWrite{good, none}, 1, api.ErrRange}, {[]api.SectorWrite{good, good, short}, 2, api.ErrLength}, {[]api.SectorWrite{good, short, none}, 1, api.ErrLength}, {[]api.SectorWrite{good, none, long}, 1, api.ErrRange}, {[]api.SectorWrite{good, good, good, {Sector: 5}}, 3, api.ErrRange},
		} {
			refused(t, d, x.l, x.at, x.e)
		}
	}
	refused(t, down, []api.SectorWrite{writeOf(1, "x")}, 0, api.ErrDown)
	refused(t, down, []api.SectorWrite{writeOf(2, "x"), writeOf(2, "x"), writeOf(0, "x"), writeOf(1, "x")}, 2, api.ErrDown)
	refused(t, down, []api.SectorWrite{writeOf(0, "x"), writeOf(1, "x"), none}, 2, api.ErrRange)
	refused(t, plain(1, failed()), []api.SectorWrite{writeOf(0, "x"), writeOf(0, "y")}, 0, api.ErrDown)
	refused(t, mirror(1, failed(), failed()), []api.SectorWrite{writeOf(0, "x")}, 0, api.ErrDown)
}

// P6.5: of the writes to units only those that are kept are made; they are what they were without the failure.
func TestPowerFailed(t *testing.T) {
	d := parity(2, active("ab"), active("cd"), active("ef"))
	l := []api.SectorWrite{writeOf(0, "x"), writeOf(1, "y")} // unit 1: x, unit 0: x and e, unit 2: y, unit 0: x and y
	zero := func(bytes string) api.DiskUnit { return api.DiskUnit{Sectors: []string{bytes, sector("b")}} }
	for _, x := range []struct {
		kept []int
		want api.Disk
	}{
		{nil, d}, {[]int{0}, parity(2, active("ab"), active("xd"), active("ef"))}, {[]int{1}, parity(2, zero(mixed("xe")), active("cd"), active("ef"))}, {[]int{2}, parity(2, active("ab"), active("cd"), active("yf"))}, {[]int{3}, parity(2, zero(mixed("xy")), active("cd"), active("ef"))},
		{[]int{1, 3}, parity(2, zero(mixed("xy")), active("cd"), active("ef"))}, {[]int{0, 2}, parity(2, active("ab"), active("xd"), active("yf"))}, {[]int{0, 1, 2, 3}, parity(2, zero(mixed("xy")), active("xd"), active("yf"))},
	} {
		after, e := disk.PowerFailed(d, l, x.kept)
		isDisk(t, "PowerFailed", after, e, x.want)
	}
	after, e := disk.PowerFailed(mirror(1, active("a"), active("a")), []api.SectorWrite{writeOf(0, "x"), writeOf(0, "y")}, []int{0, 3})
	isDisk(t, "PowerFailed of a pair", after, e, mirror(1, active("x"), active("y")))
	after, e = disk.PowerFailed(plain(1, fresh("a")), []api.SectorWrite{writeOf(0, "x"), writeOf(0, "y")}, []int{0})
	isDisk(t, "PowerFailed of a plain disk", after, e, plain(1, fresh("x")))
}

// P6.5: indexes that are none, or do not ascend; index by index.
func TestWronglyKept(t *testing.T) {
	d := mirror(1, active("a"), active("a"))
	l := []api.SectorWrite{writeOf(0, "x"), writeOf(0, "y")}
	for _, x := range []struct {
		kept []int
		e    api.Errno
	}{
		{[]int{-1}, api.ErrRange}, {[]int{4}, api.ErrRange}, {[]int{math.MaxInt}, api.ErrRange}, {[]int{math.MinInt}, api.ErrRange}, {[]int{0, 4}, api.ErrRange}, {[]int{0, -1}, api.ErrRange}, {[]int{3, 4, 0}, api.ErrRange}, {[]int{0, 1, 2, 3, 4}, api.ErrRange},
		{[]int{0, 0}, api.ErrOrder}, {[]int{1, 0}, api.ErrOrder}, {[]int{0, 3, 2}, api.ErrOrder}, {[]int{0, 3, 3, 4}, api.ErrOrder}, {[]int{2, 1, -1}, api.ErrOrder}, {[]int{0, 2, 1, 3}, api.ErrOrder}, {slices.Repeat([]int{3}, 1000), api.ErrOrder},
	} {
		after, e := disk.PowerFailed(d, l, x.kept)
		isError(t, "PowerFailed", after, e, x.e)
	}
	for _, kept := range [][]int{{0}, {-1}, {1, 0}} {
		after, e := disk.PowerFailed(d, nil, kept)
		isError(t, "PowerFailed of nothing", after, e, api.ErrRange)
	}
}

// Examples 1 to 3.
func TestExamples(t *testing.T) {
	d, e := disk.NewDisk(api.DiskParity, 3, 2)
	isDisk(t, "NewDisk", d, e, parity(2, active("\x00\x00"), active("\x00\x00"), active("\x00\x00")))
	for i, want := range [][3]int{{1, 0, 0}, {2, 0, 0}, {0, 1, 1}, {2, 1, 1}} {
		if a, b, c, e := disk.PlaceOf(d, i); [3]int{a, b, c} != want || e != api.OK {
			t.Errorf("example 1, sector %d: %d, %d, %d, %v", i, a, b, c, e)
		}
	}
	write := []api.SectorWrite{{Sector: 0, Bytes: "sixteen letters!"}}
	if all, e := disk.WritesFor(d, write); !slices.Equal(all, []api.UnitWrite{unitWrite(1, 0, "sixteen letters!"), unitWrite(0, 0, "sixteen letters!")}) || e != api.OK {
		t.Errorf("example 2: %v, %v", all, e)
	}
	d, _, _ = disk.WriteSectors(d, write)
	d, _ = disk.Failed(d, 1)
	if s, e := disk.ReadSector(d, 0); s != "sixteen letters!" || e != api.OK {
		t.Errorf("example 3: %q, %v", s, e)
	}
}

// The edge cases of the chapter.
func TestEdgeCases(t *testing.T) {
	d, _ := disk.Failed(plain(2, active("ab")), 0)
	if s, e := disk.ReadSector(d, 1); s != "" || e != api.ErrDown {
		t.Errorf("a failed plain disk is read: %q, %v", s, e)
	}
	refused(t, d, []api.SectorWrite{writeOf(1, "x")}, 0, api.ErrDown)
	pair := mirror(2, failed(), fresh("ab"))
	if s, e := disk.ReadSector(pair, 0); s != "" || e != api.ErrDown {
		t.Errorf("a pair of which none is active is read: %q, %v", s, e)
	}
	after, _, e := disk.WriteSectors(pair, []api.SectorWrite{writeOf(0, "x")})
	isDisk(t, "a pair of which none is active is written", after, e, mirror(2, failed(), fresh("xb")))
	after, _, e = disk.WriteSectors(parity(1, active("a"), active("b"), failed()), []api.SectorWrite{writeOf(1, "x")})
	isDisk(t, "the holder failed", after, e, parity(1, api.DiskUnit{Sectors: []string{mixed("bx")}}, active("b"), failed()))
	if s, e := disk.ReadSector(after, 1); s != sector("x") || e != api.OK {
		t.Errorf("what was written when the holder had failed: %q, %v", s, e)
	}
}
