package disk_test

import (
	"math"
	"slices"
	"strings"
	"testing"

	"midrange/api"
	"midrange/disk"
)

// zeros are the bytes of a sector that was never written.
const zeros = "\x00\x00\x00\x00\x00\x00\x00\x00\x00\x00\x00\x00\x00\x00\x00\x00"

// sector returns the bytes of a sector, all of them the same.
func sector(letter string) string {
	return strings.Repeat(letter, 16)
}

// unit returns a unit with a sector for each letter.
func unit(state int, letters string) api.DiskUnit {
	u := api.DiskUnit{State: state}
	for _, letter := range strings.Split(letters, "") {
		u.Sectors = append(u.Sectors, sector(letter))
	}
	return u
}

func active(letters string) api.DiskUnit {
	return unit(api.UnitActive, letters)
}

func fresh(letters string) api.DiskUnit {
	return unit(api.UnitNew, letters)
}

func failed() api.DiskUnit {
	return api.DiskUnit{State: api.UnitFailed}
}

func plain(size int, l ...api.DiskUnit) api.Disk {
	return api.Disk{Kind: api.DiskPlain, Size: size, Units: l}
}

func mirror(size int, l ...api.DiskUnit) api.Disk {
	return api.Disk{Kind: api.DiskMirror, Size: size, Units: l}
}

func parity(size int, l ...api.DiskUnit) api.Disk {
	return api.Disk{Kind: api.DiskParity, Size: size, Units: l}
}

func same(a, b api.Disk) bool {
	return a.Kind == b.Kind && a.Size == b.Size && slices.EqualFunc(a.Units, b.Units, func(u, v api.DiskUnit) bool {
		return u.State == v.State && slices.Equal(u.Sectors, v.Sectors)
	})
}

func isNothing(d api.Disk) bool {
	return same(d, api.Disk{})
}

func cloneOf(d api.Disk) api.Disk {
	units := slices.Clone(d.Units)
	for i := range units {
		units[i].Sectors = slices.Clone(units[i].Sectors)
	}
	return api.Disk{Kind: d.Kind, Size: d.Size, Units: units}
}

// isDisk says what a call returned instead of a disk that it must return.
func isDisk(t *testing.T, what string, got api.Disk, e api.Errno, want api.Disk) {
	t.Helper()
	if !same(got, want) || e != api.OK {
		t.Errorf("%s: %v, %v, not %v", what, got, e, want)
	}
}

// isError says what a call returned instead of an error and nothing.
func isError(t *testing.T, what string, got api.Disk, e, want api.Errno) {
	t.Helper()
	if !isNothing(got) || e != want {
		t.Errorf("%s: %v, %v, not %v", what, got, e, want)
	}
}

func writeOf(number int, letter string) api.SectorWrite {
	return api.SectorWrite{Sector: number, Bytes: sector(letter)}
}

func unitWrite(unit, number int, bytes string) api.UnitWrite {
	return api.UnitWrite{Unit: unit, Sector: number, Bytes: bytes}
}

var rightDisks = []struct {
	d       api.Disk
	sectors int
}{
	{plain(1, active("a")), 1}, {plain(1, fresh("a")), 1}, {plain(1, failed()), 1}, {plain(10, failed()), 10}, {plain(3, active("abc")), 3}, {plain(10, active("abcdefghij")), 10},
	{mirror(1, active("a"), active("a")), 1}, {mirror(2, active("ab"), active("cd")), 2}, {mirror(4, failed(), active("abcd")), 4}, {mirror(4, fresh("abcd"), failed()), 4}, {mirror(7, failed(), failed()), 7}, {mirror(10, fresh("abcdefghij"), fresh("jihgfedcba")), 10},
	{parity(1, active("a"), active("b"), active("c")), 2}, {parity(10, failed(), failed(), failed()), 20}, {parity(2, active("ab"), failed(), fresh("cd")), 4}, {parity(2, active("ab"), failed(), fresh("cd"), active("ef")), 6}, {parity(10, failed(), failed(), failed(), failed()), 30},
	{parity(1, active("a"), failed(), fresh("b"), active("c"), active("d")), 4}, {parity(3, failed(), failed(), failed(), failed(), active("abc")), 12}, {parity(10, failed(), failed(), failed(), failed(), active("abcdefghij")), 40},
}

// wrongStates are units whose state is none, whatever else they have.
func wrongStates() []api.DiskUnit {
	return []api.DiskUnit{unit(-1, "ab"), unit(3, "ab"), {State: 3}, {State: math.MinInt}, {State: math.MaxInt, Sectors: []string{"x"}}, {State: -1, Sectors: []string{"", ""}}}
}

// wrongShapes are units of disks of size 2 that have another number of sectors.
func wrongShapes() []api.DiskUnit {
	short := api.DiskUnit{Sectors: []string{"x"}}
	return []api.DiskUnit{active("a"), active("abc"), fresh("a"), fresh("abc"), {}, {State: api.UnitNew}, unit(api.UnitFailed, "ab"), unit(api.UnitFailed, "a"), {State: api.UnitFailed, Sectors: []string{""}}, short}
}

// wrongLengths are units of disks of size 2 of which a sector is too short or too long.
func wrongLengths() []api.DiskUnit {
	var l []api.DiskUnit
	for _, state := range []int{api.UnitActive, api.UnitNew} {
		for _, wrong := range []string{"", "x", zeros[1:], zeros + "x", zeros + zeros} {
			l = append(l, api.DiskUnit{State: state, Sectors: []string{wrong, zeros}}, api.DiskUnit{State: state, Sectors: []string{zeros, wrong}}, api.DiskUnit{State: state, Sectors: []string{wrong, wrong}})
		}
	}
	return l
}

type wrongDisk struct {
	d  api.Disk
	at int
	e  api.Errno
}

// wrongDisks are disks with all errors that a disk may have, alone and with others behind them.
func wrongDisks() []wrongDisk {
	good, bad := active("ab"), api.DiskUnit{State: 9}
	l := []wrongDisk{
		{api.Disk{Kind: -1, Size: 2, Units: []api.DiskUnit{good}}, 0, api.ErrKind}, {api.Disk{Kind: 3, Size: 2, Units: []api.DiskUnit{good, good, good}}, 0, api.ErrKind}, {api.Disk{Kind: 3}, 0, api.ErrKind}, {api.Disk{Kind: math.MaxInt}, 0, api.ErrKind}, {api.Disk{Kind: math.MinInt, Size: 2, Units: []api.DiskUnit{bad}}, 0, api.ErrKind},
		{api.Disk{}, 0, api.ErrRange}, {plain(0, active("")), 0, api.ErrRange}, {plain(0, failed()), 0, api.ErrRange}, {plain(-1, failed()), 0, api.ErrRange}, {plain(11, failed()), 0, api.ErrRange}, {plain(11, active("abcdefghijk")), 0, api.ErrRange}, {mirror(0), 0, api.ErrRange}, {mirror(11, failed(), failed()), 0, api.ErrRange}, {parity(math.MaxInt, bad), 0, api.ErrRange}, {parity(math.MinInt, failed(), failed(), failed()), 0, api.ErrRange}, {parity(11, failed(), failed(), failed()), 0, api.ErrRange},
	}
	for n := range 8 {
		for _, u := range []api.DiskUnit{good, failed(), bad} {
			units := slices.Repeat([]api.DiskUnit{u}, n)
			if n != 1 {
				l = append(l, wrongDisk{plain(2, units...), 0, api.ErrShape})
			}
			if n != 2 {
				l = append(l, wrongDisk{mirror(2, units...), 0, api.ErrShape})
			}
			if n < 3 || n > 5 {
				l = append(l, wrongDisk{parity(2, units...), 0, api.ErrShape})
			}
		}
	}
	return append(l, wrongUnits()...)
}

// wrongUnits are disks of size 2 of which a unit is wrong, the ones before it right, and one behind it wrong in another way.
func wrongUnits() []wrongDisk {
	var l []wrongDisk
	for e, wrong := range map[api.Errno][]api.DiskUnit{api.ErrState: wrongStates(), api.ErrShape: wrongShapes(), api.ErrLength: wrongLengths()} {
		for _, u := range wrong {
			l = append(l, wrongDisk{plain(2, u), 0, e}, wrongDisk{mirror(2, u, active("cd")), 0, e}, wrongDisk{mirror(2, failed(), u), 1, e}, wrongDisk{mirror(2, active("ab"), u), 1, e}, wrongDisk{parity(2, active("ab"), failed(), u), 2, e}, wrongDisk{parity(2, active("ab"), fresh("cd"), u, failed(), active("cd")), 2, e}, wrongDisk{parity(2, failed(), failed(), failed(), failed(), u), 4, e})
			for _, other := range []api.DiskUnit{{State: 7}, active("a"), {Sectors: []string{zeros, "x"}}} {
				l = append(l, wrongDisk{mirror(2, u, other), 0, e}, wrongDisk{parity(2, active("ab"), u, other, active("cd")), 1, e})
			}
		}
	}
	return l
}

// P6.1, P6.2: right disks, and how many sectors they have.
func TestRightDisks(t *testing.T) {
	for _, x := range rightDisks {
		if at, e := disk.CheckDisk(x.d); at != 0 || e != api.OK {
			t.Errorf("CheckDisk(%v): %d, %v", x.d, at, e)
		}
		if n, e := disk.SectorCount(x.d); n != x.sectors || e != api.OK {
			t.Errorf("SectorCount(%v): %d, %v, not %d", x.d, n, e, x.sectors)
		}
	}
}

// P6.1: wrong disks.
func TestWrongDisks(t *testing.T) {
	for _, x := range wrongDisks() {
		if at, e := disk.CheckDisk(x.d); at != x.at || e != x.e {
			t.Errorf("CheckDisk(%v): %d, %v, not %d, %v", x.d, at, e, x.at, x.e)
		}
	}
}

// P6.2 to P6.7: the error of the disk comes before all others, without its index.
func TestErrorsOfDisks(t *testing.T) {
	for _, x := range wrongDisks() {
		if n, e := disk.SectorCount(x.d); n != 0 || e != x.e {
			t.Errorf("SectorCount(%v): %d, %v, not %v", x.d, n, e, x.e)
		}
		if l, e := disk.SectorsOf(x.d); len(l) != 0 || e != x.e {
			t.Errorf("SectorsOf(%v): %q, %v, not %v", x.d, l, e, x.e)
		}
		d, e := disk.Synchronized(x.d)
		isError(t, "Synchronized", d, e, x.e)
		if n, e := disk.CheckRedundant(x.d); n != 0 || e != x.e {
			t.Errorf("CheckRedundant(%v): %d, %v, not %v", x.d, n, e, x.e)
		}
		for _, number := range []int{-1, 0, 1, 100} {
			diskComesFirst(t, x, number)
		}
		for _, l := range [][]api.SectorWrite{nil, {writeOf(0, "x")}, {writeOf(-1, "")}, make([]api.SectorWrite, 41)} {
			writesComeLater(t, x, l)
		}
	}
}

// diskComesFirst asks what has the number of a sector or of a unit.
func diskComesFirst(t *testing.T, x wrongDisk, number int) {
	t.Helper()
	if a, b, c, e := disk.PlaceOf(x.d, number); a != 0 || b != 0 || c != 0 || e != x.e {
		t.Errorf("PlaceOf(%v, %d): %d, %d, %d, %v, not %v", x.d, number, a, b, c, e, x.e)
	}
	if s, e := disk.ReadSector(x.d, number); s != "" || e != x.e {
		t.Errorf("ReadSector(%v, %d): %q, %v, not %v", x.d, number, s, e, x.e)
	}
	d, e := disk.Failed(x.d, number)
	isError(t, "Failed", d, e, x.e)
	d, e = disk.Replaced(x.d, number)
	isError(t, "Replaced", d, e, x.e)
	d, e = disk.Rebuilt(x.d, number)
	isError(t, "Rebuilt", d, e, x.e)
}

func writesComeLater(t *testing.T, x wrongDisk, l []api.SectorWrite) {
	t.Helper()
	d, n, e := disk.WriteSectors(x.d, l)
	isError(t, "WriteSectors", d, e, x.e)
	if n != 0 {
		t.Errorf("WriteSectors(%v, %v): %d", x.d, l, n)
	}
	if all, e := disk.WritesFor(x.d, l); len(all) != 0 || e != x.e {
		t.Errorf("WritesFor(%v, %v): %v, %v, not %v", x.d, l, all, e, x.e)
	}
	d, e = disk.PowerFailed(x.d, l, []int{-1})
	isError(t, "PowerFailed", d, e, x.e)
}

// P6.1: new disks, of all kinds, numbers of units and sizes.
func TestNewDisk(t *testing.T) {
	for kind, most := range [][]int{{1, 1}, {2, 2}, {3, 5}} {
		for units := -1; units < 8; units++ {
			for size := -1; size < 13; size++ {
				d, e := disk.NewDisk(kind, units, size)
				switch {
				case size < 1 || size > 10:
					isError(t, "NewDisk", d, e, api.ErrRange)
				case units < most[0] || units > most[1]:
					isError(t, "NewDisk", d, e, api.ErrShape)
				default:
					want := api.Disk{Kind: kind, Size: size}
					for range units {
						want.Units = append(want.Units, api.DiskUnit{State: api.UnitActive, Sectors: slices.Repeat([]string{zeros}, size)})
					}
					isDisk(t, "NewDisk", d, e, want)
				}
			}
		}
	}
}

// P6.1: disks that cannot be new, whatever is wrong besides.
func TestNoNewDisk(t *testing.T) {
	for _, x := range []struct {
		kind, units, size int
		e                 api.Errno
	}{
		{-1, 1, 1, api.ErrKind}, {3, 3, 3, api.ErrKind}, {math.MinInt, 0, 0, api.ErrKind}, {math.MaxInt, math.MaxInt, math.MaxInt, api.ErrKind}, {-1, 1, 0, api.ErrKind}, {3, 0, 1, api.ErrKind},
		{0, 1, math.MaxInt, api.ErrRange}, {1, 2, math.MinInt, api.ErrRange}, {2, 6, 11, api.ErrRange}, {2, math.MaxInt, 0, api.ErrRange},
		{0, math.MaxInt, 1, api.ErrShape}, {1, math.MaxInt, 10, api.ErrShape}, {2, math.MaxInt, 1, api.ErrShape}, {2, math.MinInt, 1, api.ErrShape},
	} {
		d, e := disk.NewDisk(x.kind, x.units, x.size)
		isError(t, "NewDisk", d, e, x.e)
	}
}

// P6.2: the places of all sectors of parity sets, written down by hand.
func TestPlaces(t *testing.T) {
	for _, x := range []struct {
		units  int
		places [][3]int
	}{
		{3, [][3]int{{1, 0, 0}, {2, 0, 0}, {0, 1, 1}, {2, 1, 1}, {0, 2, 2}, {1, 2, 2}, {1, 3, 0}, {2, 3, 0}, {0, 4, 1}, {2, 4, 1}, {0, 5, 2}, {1, 5, 2}, {1, 6, 0}, {2, 6, 0}, {0, 7, 1}, {2, 7, 1}, {0, 8, 2}, {1, 8, 2}, {1, 9, 0}, {2, 9, 0}}},
		{4, [][3]int{{1, 0, 0}, {2, 0, 0}, {3, 0, 0}, {0, 1, 1}, {2, 1, 1}, {3, 1, 1}, {0, 2, 2}, {1, 2, 2}, {3, 2, 2}, {0, 3, 3}, {1, 3, 3}, {2, 3, 3}, {1, 4, 0}}},
		{5, [][3]int{{1, 0, 0}, {2, 0, 0}, {3, 0, 0}, {4, 0, 0}, {0, 1, 1}, {2, 1, 1}, {3, 1, 1}, {4, 1, 1}, {0, 2, 2}, {1, 2, 2}, {3, 2, 2}, {4, 2, 2}, {0, 3, 3}, {1, 3, 3}, {2, 3, 3}, {4, 3, 3}, {0, 4, 4}, {1, 4, 4}, {2, 4, 4}, {3, 4, 4}, {1, 5, 0}}},
	} {
		for _, u := range []api.DiskUnit{active("abcdefghij"), fresh("abcdefghij"), failed()} {
			d := parity(10, slices.Repeat([]api.DiskUnit{u}, x.units)...)
			for i, want := range x.places {
				if a, b, c, e := disk.PlaceOf(d, i); [3]int{a, b, c} != want || e != api.OK {
					t.Errorf("PlaceOf(%v, %d): %d, %d, %d, %v, not %v", d, i, a, b, c, e, want)
				}
			}
		}
	}
}

// P6.2: on plain disks and mirrored pairs a sector is on the first unit, in whatever state it is.
func TestPlacesWithoutParity(t *testing.T) {
	for _, d := range []api.Disk{plain(4, active("abcd")), plain(4, fresh("abcd")), plain(4, failed()), mirror(4, active("abcd"), active("abcd")), mirror(4, failed(), active("abcd")), mirror(4, fresh("abcd"), failed()), mirror(4, failed(), failed())} {
		for i := range 4 {
			if a, b, c, e := disk.PlaceOf(d, i); a != 0 || b != i || c != api.None || e != api.OK {
				t.Errorf("PlaceOf(%v, %d): %d, %d, %d, %v", d, i, a, b, c, e)
			}
		}
	}
}

// P6.2, P6.3: sectors that a disk has not.
func TestNoSuchSector(t *testing.T) {
	for _, x := range rightDisks {
		for _, number := range []int{-1, -2, x.sectors, x.sectors + 1, 100, math.MaxInt, math.MinInt} {
			if a, b, c, e := disk.PlaceOf(x.d, number); a != 0 || b != 0 || c != 0 || e != api.ErrRange {
				t.Errorf("PlaceOf(%v, %d): %d, %d, %d, %v", x.d, number, a, b, c, e)
			}
			if s, e := disk.ReadSector(x.d, number); s != "" || e != api.ErrRange {
				t.Errorf("ReadSector(%v, %d): %q, %v", x.d, number, s, e)
			}
		}
		if _, _, _, e := disk.PlaceOf(x.d, x.sectors-1); e != api.OK {
			t.Errorf("PlaceOf(%v, %d): %v", x.d, x.sectors-1, e)
		}
	}
}
