package disk

import "midrange/api"

// xor returns the exclusive or of two sectors.
func xor(a, b string) string {
	out := []byte(a)
	for i := range out {
		out[i] ^= b[i]
	}
	return string(out)
}

// fromOthers returns what a sector of a unit must be by those of all other units, and whether all of these are read. Of a mirrored pair the exclusive or of the others is the other one; a plain disk has no others.
func fromOthers(d api.Disk, unit, sector int) (string, bool) {
	if d.Kind == api.DiskPlain {
		return "", false
	}
	bytes := zeroSector()
	for i, u := range d.Units {
		if i == unit {
			continue
		}
		if u.State != api.UnitActive {
			return "", false
		}
		bytes = xor(bytes, u.Sectors[sector])
	}
	return bytes, true
}

// read returns the bytes of a sector of a disk, and whether it can be read.
func read(d api.Disk, sector int) (string, bool) {
	p := placeOf(d, sector)
	if u := d.Units[p.unit]; u.State == api.UnitActive {
		return u.Sectors[p.sector], true
	}
	return fromOthers(d, p.unit, p.sector)
}

// ReadSector returns the bytes of a sector.
func ReadSector(d api.Disk, sector int) (string, api.Errno) {
	if e := checkSector(d, sector); e != api.OK {
		return "", e
	}
	bytes, ok := read(d, sector)
	if !ok {
		return "", api.ErrDown
	}
	return bytes, api.OK
}

// SectorsOf returns all sectors.
func SectorsOf(d api.Disk) ([]string, api.Errno) {
	if _, e := CheckDisk(d); e != api.OK {
		return nil, e
	}
	var l []string
	for sector := range sectorCount(d) {
		bytes, ok := read(d, sector)
		if !ok {
			return nil, api.ErrDown
		}
		l = append(l, bytes)
	}
	return l, api.OK
}

func isWritten(u api.DiskUnit) bool {
	return u.State != api.UnitFailed
}

// unitWrites returns the writes to units for a write of a sector; none if it is not possible.
func unitWrites(d api.Disk, w api.SectorWrite) []api.UnitWrite {
	if d.Kind == api.DiskParity {
		return parityWrites(d, w)
	}
	var l []api.UnitWrite
	for i, u := range d.Units {
		if isWritten(u) {
			l = append(l, api.UnitWrite{Unit: i, Sector: w.Sector, Bytes: w.Bytes})
		}
	}
	return l
}

// parityWrites is unitWrites of a parity set.
func parityWrites(d api.Disk, w api.SectorWrite) []api.UnitWrite {
	p := placeOf(d, w.Sector)
	var l []api.UnitWrite
	if isWritten(d.Units[p.unit]) {
		l = append(l, api.UnitWrite{Unit: p.unit, Sector: p.sector, Bytes: w.Bytes})
	}
	if isWritten(d.Units[p.parity]) {
		bytes, ok := parityAfter(d, w)
		if !ok {
			return nil
		}
		l = append(l, api.UnitWrite{Unit: p.parity, Sector: p.sector, Bytes: bytes})
	}
	return l
}

// parityAfter returns the parity of a stripe after a write, and whether the other data of the stripe can be read for it. They are read from the disk before the write: what is read from other units would be wrong when only the data were written.
func parityAfter(d api.Disk, w api.SectorWrite) (string, bool) {
	parity := w.Bytes
	first := w.Sector - w.Sector%dataUnits(d)
	for sector := first; sector < first+dataUnits(d); sector++ {
		if sector == w.Sector {
			continue
		}
		bytes, ok := read(d, sector)
		if !ok {
			return "", false
		}
		parity = xor(parity, bytes)
	}
	return parity, true
}

// put makes writes to the units of a disk that has memory of its own.
func put(d api.Disk, l ...api.UnitWrite) {
	for _, w := range l {
		d.Units[w.Unit].Sectors[w.Sector] = w.Bytes
	}
}

// checkWrites returns the error of a disk or of writes, apart from those that are not possible.
func checkWrites(d api.Disk, l []api.SectorWrite) (int, api.Errno) {
	if _, e := CheckDisk(d); e != api.OK {
		return 0, e
	}
	if len(l) > api.MaxItems {
		return 0, api.ErrLarge
	}
	for i, w := range l {
		if !hasSector(d, w.Sector) {
			return i, api.ErrRange
		}
		if len(w.Bytes) != api.SectorSize {
			return i, api.ErrLength
		}
	}
	return 0, api.OK
}

// written returns the disk after writes, and all writes to units; beside an error the index of the write that has it.
func written(d api.Disk, l []api.SectorWrite) (api.Disk, []api.UnitWrite, int, api.Errno) {
	if i, e := checkWrites(d, l); e != api.OK {
		return api.Disk{}, nil, i, e
	}
	after := copyOf(d)
	var all []api.UnitWrite
	for i, w := range l {
		writes := unitWrites(after, w)
		if len(writes) == 0 {
			return api.Disk{}, nil, i, api.ErrDown
		}
		put(after, writes...)
		all = append(all, writes...)
	}
	return after, all, 0, api.OK
}

// WriteSectors returns the disk after writes, and their number. Beside the error of a write the number is its index.
func WriteSectors(d api.Disk, l []api.SectorWrite) (api.Disk, int, api.Errno) {
	after, _, at, e := written(d, l)
	if e != api.OK {
		return api.Disk{}, at, e
	}
	return after, len(l), api.OK
}

// WritesFor returns the writes to units that WriteSectors makes.
func WritesFor(d api.Disk, l []api.SectorWrite) ([]api.UnitWrite, api.Errno) {
	_, all, _, e := written(d, l)
	return all, e
}

// PowerFailed returns the disk on which only those writes to units were made whose indexes were kept.
func PowerFailed(d api.Disk, l []api.SectorWrite, kept []int) (api.Disk, api.Errno) {
	all, e := WritesFor(d, l)
	if e != api.OK {
		return api.Disk{}, e
	}
	after := copyOf(d)
	before := api.None
	for _, i := range kept {
		if i < 0 || i >= len(all) {
			return api.Disk{}, api.ErrRange
		}
		if i <= before {
			return api.Disk{}, api.ErrOrder
		}
		put(after, all[i])
		before = i
	}
	return after, api.OK
}
