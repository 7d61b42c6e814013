package disk_test

import (
	"math"
	"testing"

	"midrange/api"
	"midrange/disk"
)

// mixedUnit is an active unit whose sectors are the exclusive or of those with some letters.
func mixedUnit(l ...string) api.DiskUnit {
	var u api.DiskUnit
	for _, letters := range l {
		u.Sectors = append(u.Sectors, mixed(letters))
	}
	return u
}

// P6.5: disks made redundant again.
func TestSynchronized(t *testing.T) {
	for _, x := range []struct{ d, want api.Disk }{
		{plain(2, active("ab")), plain(2, active("ab"))},
		{mirror(2, active("ab"), active("cd")), mirror(2, active("ab"), active("ab"))},
		{mirror(2, active("ab"), active("ab")), mirror(2, active("ab"), active("ab"))},
		{parity(4, active("abcd"), active("efgh"), active("ijkl")), parity(4, mixedUnit("ei", "b", "c", "hl"), mixedUnit("e", "bj", "g", "h"), mixedUnit("i", "j", "cg", "l"))},
		{parity(2, active("ab"), active("cd"), active("ef"), active("gh")), parity(2, mixedUnit("ceg", "b"), mixedUnit("c", "bfh"), active("ef"), active("gh"))},
	} {
		d, e := disk.Synchronized(x.d)
		isDisk(t, "Synchronized", d, e, x.want)
		again, e := disk.Synchronized(d)
		isDisk(t, "Synchronized again", again, e, x.want)
	}
}

// P6.5, P6.6: units that are not active.
func TestNotAllActive(t *testing.T) {
	for _, x := range []struct {
		d  api.Disk
		at int
	}{
		{plain(2, fresh("ab")), 0}, {plain(2, failed()), 0}, {mirror(2, fresh("ab"), active("ab")), 0}, {mirror(2, active("ab"), failed()), 1}, {mirror(2, active("ab"), fresh("cd")), 1}, {mirror(2, failed(), failed()), 0},
		{parity(2, active("ab"), active("ab"), fresh("ab")), 2}, {parity(2, active("ab"), failed(), fresh("ab")), 1}, {parity(2, active("ab"), active("ab"), active("ab"), active("ab"), failed()), 4}, {parity(2, failed(), active("ab"), active("ab"), active("ab"), failed()), 0},
	} {
		d, e := disk.Synchronized(x.d)
		isError(t, "Synchronized", d, e, api.ErrState)
		if at, e := disk.CheckRedundant(x.d); at != x.at || e != api.ErrState {
			t.Errorf("CheckRedundant(%v): %d, %v, not %d", x.d, at, e, x.at)
		}
	}
}

// P6.6: redundant disks, and the first stripe that is not redundant.
func TestCheckRedundant(t *testing.T) {
	zero := api.DiskUnit{Sectors: []string{zeros, zeros, zeros}}
	last := api.DiskUnit{Sectors: []string{zeros, zeros, zeros[:15] + "\x01"}}
	first := api.DiskUnit{Sectors: []string{"\x80" + zeros[:15], zeros, zeros}}
	for _, x := range []struct {
		d api.Disk
		n int
		e api.Errno
	}{
		{plain(1, active("a")), 1, api.OK}, {plain(3, active("abc")), 3, api.OK}, {plain(3, zero), 3, api.OK}, {plain(10, active("abcdefghij")), 10, api.OK},
		{mirror(3, active("abc"), active("abc")), 3, api.OK}, {mirror(3, zero, zero), 3, api.OK}, {mirror(1, active("a"), active("a")), 1, api.OK},
		{mirror(3, active("abc"), active("xbc")), 0, api.ErrBroken}, {mirror(3, active("abc"), active("axc")), 1, api.ErrBroken}, {mirror(3, active("abc"), active("abx")), 2, api.ErrBroken}, {mirror(3, active("abc"), active("axx")), 1, api.ErrBroken}, {mirror(3, last, zero), 2, api.ErrBroken}, {mirror(3, zero, first), 0, api.ErrBroken},
		{parity(3, zero, zero, zero), 3, api.OK}, {parity(3, zero, last, last), 3, api.OK}, {parity(2, active("ab"), mixedUnit("ac", "bd"), active("cd")), 2, api.OK}, {parity(2, active("ab"), active("ab"), active("cd"), active("cd")), 2, api.OK}, {parity(1, mixedUnit("abcd"), active("a"), active("b"), active("c"), active("d")), 1, api.OK},
		{parity(3, zero, zero, last), 2, api.ErrBroken}, {parity(3, zero, first, last), 0, api.ErrBroken}, {parity(3, last, zero, zero), 2, api.ErrBroken}, {parity(2, active("ab"), mixedUnit("ac", "d"), active("cd")), 1, api.ErrBroken}, {parity(2, active("ab"), active("ab"), active("cd"), active("ce")), 1, api.ErrBroken}, {parity(1, mixedUnit("abc"), active("a"), active("b"), active("c"), active("d")), 0, api.ErrBroken}, {parity(1, active("a"), active("a"), active("a")), 0, api.ErrBroken},
	} {
		if n, e := disk.CheckRedundant(x.d); n != x.n || e != x.e {
			t.Errorf("CheckRedundant(%v): %d, %v, not %d, %v", x.d, n, e, x.n, x.e)
		}
	}
}

// P6.7: units fail.
func TestFailed(t *testing.T) {
	for _, x := range []struct {
		d    api.Disk
		unit int
		want api.Disk
	}{
		{plain(2, active("ab")), 0, plain(2, failed())}, {plain(2, fresh("ab")), 0, plain(2, failed())}, {mirror(1, active("a"), active("b")), 0, mirror(1, failed(), active("b"))}, {mirror(1, active("a"), active("b")), 1, mirror(1, active("a"), failed())}, {mirror(1, failed(), fresh("b")), 1, mirror(1, failed(), failed())},
		{parity(1, active("a"), active("b"), active("c")), 1, parity(1, active("a"), failed(), active("c"))}, {parity(1, active("a"), failed(), fresh("c")), 2, parity(1, active("a"), failed(), failed())},
	} {
		d, e := disk.Failed(x.d, x.unit)
		isDisk(t, "Failed", d, e, x.want)
	}
	for i := range 3 {
		d, e := disk.Failed(parity(2, failed(), failed(), failed()), i)
		isError(t, "Failed of a failed unit", d, e, api.ErrState)
	}
}

// P6.7: failed units are replaced.
func TestReplaced(t *testing.T) {
	for _, x := range []struct {
		d    api.Disk
		unit int
		want api.Disk
	}{
		{plain(2, failed()), 0, plain(2, fresh("\x00\x00"))}, {mirror(1, failed(), active("b")), 0, mirror(1, fresh("\x00"), active("b"))}, {mirror(1, active("a"), failed()), 1, mirror(1, active("a"), fresh("\x00"))}, {mirror(1, failed(), failed()), 1, mirror(1, failed(), fresh("\x00"))},
		{parity(3, fresh("abc"), failed(), active("def")), 1, parity(3, fresh("abc"), fresh("\x00\x00\x00"), active("def"))},
	} {
		d, e := disk.Replaced(x.d, x.unit)
		isDisk(t, "Replaced", d, e, x.want)
	}
	for i, d := range []api.Disk{parity(2, active("ab"), active("ab"), active("ab")), parity(2, fresh("ab"), fresh("ab"), fresh("ab")), parity(2, active("ab"), fresh("ab"), active("ab"))} {
		for unit := range 3 {
			after, e := disk.Replaced(d, unit)
			isError(t, "Replaced", after, e, api.ErrState)
			if i == 0 || i == 2 && unit != 1 {
				after, e = disk.Rebuilt(d, unit)
				isError(t, "Rebuilt", after, e, api.ErrState)
			}
		}
	}
}

// P6.7: new units are rebuilt, if the others are active.
func TestRebuilt(t *testing.T) {
	for _, x := range []struct {
		d    api.Disk
		unit int
		want api.Disk
	}{
		{mirror(2, fresh("ab"), active("cd")), 0, mirror(2, active("cd"), active("cd"))}, {mirror(2, active("ab"), fresh("cd")), 1, mirror(2, active("ab"), active("ab"))},
		{parity(2, fresh("ab"), active("cd"), active("ef")), 0, parity(2, mixedUnit("ce", "df"), active("cd"), active("ef"))}, {parity(2, active("ab"), active("cd"), fresh("ef")), 2, parity(2, active("ab"), active("cd"), mixedUnit("ac", "bd"))}, {parity(1, active("a"), fresh("b"), active("c"), active("d"), active("e")), 1, parity(1, active("a"), mixedUnit("acde"), active("c"), active("d"), active("e"))},
	} {
		d, e := disk.Rebuilt(x.d, x.unit)
		isDisk(t, "Rebuilt", d, e, x.want)
	}
	for _, x := range []struct {
		d    api.Disk
		unit int
		e    api.Errno
	}{
		{plain(2, fresh("ab")), 0, api.ErrDown}, {plain(2, active("ab")), 0, api.ErrState}, {plain(2, failed()), 0, api.ErrState},
		{mirror(2, fresh("ab"), failed()), 0, api.ErrDown}, {mirror(2, fresh("ab"), fresh("cd")), 1, api.ErrDown}, {mirror(2, fresh("ab"), failed()), 1, api.ErrState}, {mirror(2, fresh("ab"), active("ab")), 1, api.ErrState},
		{parity(2, fresh("ab"), failed(), active("cd")), 0, api.ErrDown}, {parity(2, fresh("ab"), active("cd"), fresh("cd")), 0, api.ErrDown}, {parity(2, fresh("ab"), active("cd"), fresh("cd")), 2, api.ErrDown}, {parity(2, failed(), active("cd"), active("cd")), 0, api.ErrState}, {parity(2, failed(), active("cd"), active("cd"), active("cd")), 3, api.ErrState},
	} {
		d, e := disk.Rebuilt(x.d, x.unit)
		isError(t, "Rebuilt", d, e, x.e)
	}
}

// P6.7: units that a disk has not, also if the state of all is wrong.
func TestNoSuchUnit(t *testing.T) {
	for _, x := range rightDisks {
		n := len(x.d.Units)
		for _, unit := range []int{-1, -2, n, n + 1, math.MaxInt, math.MinInt} {
			d, e := disk.Failed(x.d, unit)
			isError(t, "Failed", d, e, api.ErrRange)
			d, e = disk.Replaced(x.d, unit)
			isError(t, "Replaced", d, e, api.ErrRange)
			d, e = disk.Rebuilt(x.d, unit)
			isError(t, "Rebuilt", d, e, api.ErrRange)
		}
	}
}
