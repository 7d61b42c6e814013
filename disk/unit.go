package disk

import "midrange/api"

// firstInactive returns the first unit that is not active, or None.
func firstInactive(d api.Disk) int {
	for i, u := range d.Units {
		if u.State != api.UnitActive {
			return i
		}
	}
	return api.None
}

// derivedUnit is the unit whose sector is made anew from those of the others.
func derivedUnit(d api.Disk, sector int) int {
	if d.Kind == api.DiskMirror {
		return 1
	}
	return sector % len(d.Units)
}

// Synchronized returns the disk made redundant again.
func Synchronized(d api.Disk) (api.Disk, api.Errno) {
	if _, e := CheckDisk(d); e != api.OK {
		return api.Disk{}, e
	}
	if firstInactive(d) != api.None {
		return api.Disk{}, api.ErrState
	}
	after := copyOf(d)
	for sector := range d.Size {
		unit := derivedUnit(d, sector)
		if bytes, ok := fromOthers(d, unit, sector); ok {
			put(after, api.UnitWrite{Unit: unit, Sector: sector, Bytes: bytes})
		}
	}
	return after, api.OK
}

// CheckRedundant accepts redundant disks, and returns their number of stripes; beside an error the index of the unit or of the sector that has it.
func CheckRedundant(d api.Disk) (int, api.Errno) {
	if _, e := CheckDisk(d); e != api.OK {
		return 0, e
	}
	if i := firstInactive(d); i != api.None {
		return i, api.ErrState
	}
	for sector := range d.Size {
		if bytes, ok := fromOthers(d, 0, sector); ok && bytes != d.Units[0].Sectors[sector] {
			return sector, api.ErrBroken
		}
	}
	return d.Size, api.OK
}

// stateOf returns the state of a unit, or the error of the disk or of the number of the unit.
func stateOf(d api.Disk, unit int) (int, api.Errno) {
	if _, e := CheckDisk(d); e != api.OK {
		return 0, e
	}
	if unit < 0 || unit >= len(d.Units) {
		return 0, api.ErrRange
	}
	return d.Units[unit].State, api.OK
}

// withUnit returns a disk of its own memory with another unit in the place of one.
func withUnit(d api.Disk, i int, u api.DiskUnit) api.Disk {
	after := copyOf(d)
	after.Units[i] = u
	return after
}

// Failed returns the disk after a unit failed.
func Failed(d api.Disk, unit int) (api.Disk, api.Errno) {
	state, e := stateOf(d, unit)
	if e != api.OK {
		return api.Disk{}, e
	}
	if state == api.UnitFailed {
		return api.Disk{}, api.ErrState
	}
	return withUnit(d, unit, api.DiskUnit{State: api.UnitFailed}), api.OK
}

// Replaced returns the disk with a new unit in the place of a failed one.
func Replaced(d api.Disk, unit int) (api.Disk, api.Errno) {
	state, e := stateOf(d, unit)
	if e != api.OK {
		return api.Disk{}, e
	}
	if state != api.UnitFailed {
		return api.Disk{}, api.ErrState
	}
	return withUnit(d, unit, zeroUnit(api.UnitNew, d.Size)), api.OK
}

// Rebuilt returns the disk in which a new unit is active, with the sectors that follow from the others.
func Rebuilt(d api.Disk, unit int) (api.Disk, api.Errno) {
	state, e := stateOf(d, unit)
	if e != api.OK {
		return api.Disk{}, e
	}
	if state != api.UnitNew {
		return api.Disk{}, api.ErrState
	}
	rebuilt := api.DiskUnit{State: api.UnitActive}
	for sector := range d.Size {
		bytes, ok := fromOthers(d, unit, sector)
		if !ok {
			return api.Disk{}, api.ErrDown
		}
		rebuilt.Sectors = append(rebuilt.Sectors, bytes)
	}
	return withUnit(d, unit, rebuilt), api.OK
}
