package disk_test

import (
	"slices"
	"testing"

	"midrange/api"
	"midrange/disk"
)

// sequence makes numbers that look like random ones, the same in each run.
type sequence struct{ state uint64 }

func (q *sequence) below(n int) int {
	q.state = q.state*6364136223846793005 + 1442695040888963407
	return int(q.state>>33) % n
}

// text returns the bytes of a sector.
func (q *sequence) text() string {
	bytes := make([]byte, 16)
	for i := range bytes {
		bytes[i] = byte(q.below(256))
	}
	return string(bytes)
}

// disk returns a disk with units of these states and any bytes.
func (q *sequence) disk(kind, size int, states []int) api.Disk {
	d := api.Disk{Kind: kind, Size: size}
	for _, state := range states {
		u := api.DiskUnit{State: state}
		if state != api.UnitFailed {
			for range size {
				u.Sectors = append(u.Sectors, q.text())
			}
		}
		d.Units = append(d.Units, u)
	}
	return d
}

// redundant returns a redundant disk with any bytes.
func (q *sequence) redundant(kind, units int) api.Disk {
	d := q.disk(kind, 1+q.below(10), make([]int, units))
	for i := range d.Size {
		last := []byte(zeros)
		for _, u := range d.Units[:units-1] {
			for at := range last {
				last[at] ^= u.Sectors[i][at]
			}
		}
		if kind != api.DiskPlain {
			d.Units[units-1].Sectors[i] = string(last)
		}
	}
	return d
}

// writes returns writes of sectors of a disk, some of them of the same sector.
func (q *sequence) writes(d api.Disk, n int) []api.SectorWrite {
	count, _ := disk.SectorCount(d)
	var l []api.SectorWrite
	for range n {
		l = append(l, api.SectorWrite{Sector: q.below(count), Bytes: q.text()})
	}
	return l
}

// kept returns some of the indexes below n.
func (q *sequence) kept(n int) []int {
	var l []int
	for i := range n {
		if q.below(2) == 0 {
			l = append(l, i)
		}
	}
	return l
}

// shapes are all kinds of disks with all their numbers of units.
var shapes = []struct{ kind, units int }{{api.DiskPlain, 1}, {api.DiskMirror, 2}, {api.DiskParity, 3}, {api.DiskParity, 4}, {api.DiskParity, 5}}

// everyDisk calls a function for disks with all states of the units of all shapes.
func everyDisk(q *sequence, f func(d api.Disk)) {
	for _, s := range shapes {
		states := make([]int, s.units)
		for more := true; more; more = next(states) {
			f(q.disk(s.kind, 1+q.below(10), states))
		}
	}
}

// next makes the states that come next, and says whether there are any.
func next(states []int) bool {
	for i := range states {
		states[i] = (states[i] + 1) % 3
		if states[i] > 0 {
			return true
		}
	}
	return false
}

// row is the second computation: the bytes of a unit at one offset, by sectors, of all units.
type row struct {
	kind, size int
	states     []int
	bytes      [][]byte
}

func rowOf(d api.Disk, at int) row {
	r := row{kind: d.Kind, size: d.Size}
	for _, u := range d.Units {
		bytes := make([]byte, d.Size)
		for i, s := range u.Sectors {
			bytes[i] = s[at]
		}
		r.states = append(r.states, u.State)
		r.bytes = append(r.bytes, bytes)
	}
	return r
}

// home is where a sector is: the units that have its data, the sector of them, the units that have other data of it, and the unit of its parity, or -1.
type home struct {
	holders []int
	stripe  int
	others  []int
	parity  int
}

// homes are the homes of all sectors, by walking over all stripes.
func (r row) homes() []home {
	var l []home
	for stripe := range r.size {
		switch r.kind {
		case api.DiskPlain:
			l = append(l, home{[]int{0}, stripe, nil, -1})
		case api.DiskMirror:
			l = append(l, home{[]int{0, 1}, stripe, nil, -1})
		default:
			for u := range r.states {
				h := home{[]int{u}, stripe, nil, stripe % len(r.states)}
				for v := range r.states {
					if v != u && v != h.parity {
						h.others = append(h.others, v)
					}
				}
				if u != h.parity {
					l = append(l, h)
				}
			}
		}
	}
	return l
}

// data returns the byte of a unit of a parity set, read or computed.
func (r row) data(unit, stripe int) (byte, bool) {
	if r.states[unit] == api.UnitActive {
		return r.bytes[unit][stripe], true
	}
	var all byte
	active := 0
	for v := range r.states {
		if v != unit && r.states[v] == api.UnitActive {
			all ^= r.bytes[v][stripe]
			active++
		}
	}
	return all, active == len(r.states)-1
}

// read returns the byte of a sector, and whether it can be read.
func (r row) read(h home) (byte, bool) {
	if r.kind == api.DiskParity {
		return r.data(h.holders[0], h.stripe)
	}
	for _, u := range h.holders {
		if r.states[u] == api.UnitActive {
			return r.bytes[u][h.stripe], true
		}
	}
	return 0, false
}

// byteWrite is a write to a unit at one offset.
type byteWrite struct {
	unit, sector int
	b            byte
}

// write returns the writes for a write of a sector, and whether it is possible.
func (r row) write(h home, b byte) ([]byteWrite, bool) {
	var l []byteWrite
	for _, u := range h.holders {
		if r.states[u] != api.UnitFailed {
			l = append(l, byteWrite{u, h.stripe, b})
		}
	}
	if h.parity >= 0 && r.states[h.parity] != api.UnitFailed {
		for _, v := range h.others {
			other, ok := r.data(v, h.stripe)
			if !ok {
				return nil, false
			}
			b ^= other
		}
		l = append(l, byteWrite{h.parity, h.stripe, b})
	}
	return l, len(l) > 0
}

func (r row) put(l ...byteWrite) {
	for _, w := range l {
		r.bytes[w.unit][w.sector] = w.b
	}
}

// has says whether a disk has, at an offset, what a row has.
func (r row) has(d api.Disk, at int) bool {
	o := rowOf(d, at)
	return o.kind == r.kind && o.size == r.size && slices.Equal(o.states, r.states) && slices.EqualFunc(o.bytes, r.bytes, func(a, b []byte) bool { return string(a) == string(b) })
}

// P6.2, P6.3: places and bytes of all sectors, with all states of units, against the second computation.
func TestReadingAgainstRows(t *testing.T) {
	q := &sequence{1}
	for range 12 {
		everyDisk(q, func(d api.Disk) {
			homes := rowOf(d, 0).homes()
			if n, e := disk.SectorCount(d); n != len(homes) || e != api.OK {
				t.Fatalf("SectorCount(%v): %d, %v", d, n, e)
			}
			all, down := []string{}, false
			for i, h := range homes {
				if a, b, c, e := disk.PlaceOf(d, i); a != h.holders[0] || b != h.stripe || c != h.parity || e != api.OK {
					t.Fatalf("PlaceOf(%v, %d): %d, %d, %d, %v", d, i, a, b, c, e)
				}
				want, ok := textAt(d, h)
				s, e := disk.ReadSector(d, i)
				if s != want || ok && e != api.OK || !ok && e != api.ErrDown {
					t.Fatalf("ReadSector(%v, %d): %q, %v, not %q", d, i, s, e, want)
				}
				all, down = append(all, want), down || !ok
			}
			l, e := disk.SectorsOf(d)
			if down && (len(l) > 0 || e != api.ErrDown) || !down && (!slices.Equal(l, all) || e != api.OK) {
				t.Fatalf("SectorsOf(%v): %q, %v", d, l, e)
			}
		})
	}
}

// textAt reads a sector byte by byte; it is nothing if it cannot be read.
func textAt(d api.Disk, h home) (string, bool) {
	bytes := make([]byte, 16)
	for at := range bytes {
		b, ok := rowOf(d, at).read(h)
		if !ok {
			return "", false
		}
		bytes[at] = b
	}
	return string(bytes), true
}

// writesAt does writes at one offset; it returns the row behind them, all that was written, and the index of the first write that is not possible, or -1.
func writesAt(d api.Disk, l []api.SectorWrite, at int) (row, []byteWrite, int) {
	r := rowOf(d, at)
	homes := r.homes()
	var all []byteWrite
	for i, w := range l {
		writes, ok := r.write(homes[w.Sector], w.Bytes[at])
		if !ok {
			return r, nil, i
		}
		r.put(writes...)
		all = append(all, writes...)
	}
	return r, all, -1
}

// P6.4, P6.5: writes and power failures, with all states of units, against the second computation.
func TestWritingAgainstRows(t *testing.T) {
	q := &sequence{2}
	for range 30 {
		everyDisk(q, func(d api.Disk) {
			l := q.writes(d, 1+q.below(6))
			_, first, down := writesAt(d, l, 0)
			if down >= 0 {
				refused(t, d, l, down, api.ErrDown)
				return
			}
			all, e := disk.WritesFor(d, l)
			after, n, f := disk.WriteSectors(d, l)
			kept := q.kept(len(first))
			left, g := disk.PowerFailed(d, l, kept)
			if len(all) != len(first) || n != len(l) || e != api.OK || f != api.OK || g != api.OK {
				t.Fatalf("writing %v to %v: %v, %v; %d, %v; %v", l, d, all, e, n, f, g)
			}
			for at := range 16 {
				r, writes, _ := writesAt(d, l, at)
				half := rowOf(d, at)
				for i, w := range writes {
					if u := all[i]; u.Unit != w.unit || u.Sector != w.sector || len(u.Bytes) != 16 || u.Bytes[at] != w.b {
						t.Fatalf("WritesFor(%v, %v): %v, not %v at %d", d, l, all, writes, at)
					}
					if slices.Contains(kept, i) {
						half.put(w)
					}
				}
				if !r.has(after, at) || !half.has(left, at) {
					t.Fatalf("writing %v to %v: %v; kept %v: %v", l, d, after, kept, left)
				}
			}
		})
	}
}

// isRedundant says of all bytes of a disk whether it is redundant.
func isRedundant(d api.Disk) bool {
	for i := range d.Size {
		for at := range 16 {
			var all byte
			for _, u := range d.Units {
				if u.State != api.UnitActive {
					return false
				}
				all ^= u.Sectors[i][at]
			}
			if d.Kind != api.DiskPlain && all != 0 {
				return false
			}
		}
	}
	return true
}

// P6.6, P6.7: units with all states, one after the other.
func TestUnitsAgainstStates(t *testing.T) {
	q := &sequence{3}
	for range 10 {
		everyDisk(q, func(d api.Disk) {
			for i, u := range d.Units {
				after, e := disk.Failed(d, i)
				isChanged(t, d, i, after, e, u.State != api.UnitFailed, api.UnitFailed)
				after, e = disk.Replaced(d, i)
				isChanged(t, d, i, after, e, u.State == api.UnitFailed, api.UnitNew)
				if e == api.OK && slices.ContainsFunc(after.Units[i].Sectors, func(s string) bool { return s != zeros }) {
					t.Fatalf("Replaced(%v, %d): %v", d, i, after)
				}
				after, e = disk.Rebuilt(d, i)
				active := 0
				for _, v := range d.Units {
					if v.State == api.UnitActive {
						active++
					}
				}
				if u.State == api.UnitNew && (active < len(d.Units)-1 || d.Kind == api.DiskPlain) {
					isError(t, "Rebuilt", after, e, api.ErrDown)
					continue
				}
				isChanged(t, d, i, after, e, u.State == api.UnitNew, api.UnitActive)
				if n, f := disk.CheckRedundant(after); e == api.OK && (n != d.Size || f != api.OK || !isRedundant(after)) {
					t.Fatalf("Rebuilt(%v, %d): %v", d, i, after)
				}
			}
		})
	}
}

// isChanged says if a unit, and no other one, did not get a state, though it may, or did, though it may not.
func isChanged(t *testing.T, d api.Disk, i int, after api.Disk, e api.Errno, may bool, state int) {
	t.Helper()
	if !may {
		isError(t, "a unit", after, e, api.ErrState)
		return
	}
	if e != api.OK || len(after.Units) != len(d.Units) || after.Units[i].State != state {
		t.Fatalf("unit %d of %v to state %d: %v, %v", i, d, state, after, e)
	}
	if at, e := disk.CheckDisk(after); e != api.OK {
		t.Fatalf("unit %d of %v to state %d: %v, %d, %v", i, d, state, after, at, e)
	}
	want := cloneOf(d)
	want.Units[i] = after.Units[i]
	isDisk(t, "the other units", after, e, want)
}

// P6.5, P6.6: what is synchronized is redundant, and has the data that it had.
func TestSynchronizedIsRedundant(t *testing.T) {
	q := &sequence{4}
	for range 200 {
		for _, s := range shapes {
			d := q.disk(s.kind, 1+q.below(10), make([]int, s.units))
			n, e := disk.CheckRedundant(d)
			if isRedundant(d) != (e == api.OK) || e == api.OK && n != d.Size || e != api.OK && (n != 0 || e != api.ErrBroken) {
				t.Fatalf("CheckRedundant(%v): %d, %v", d, n, e)
			}
			after, _ := disk.Synchronized(d)
			before, _ := disk.SectorsOf(d)
			l, _ := disk.SectorsOf(after)
			if n, e := disk.CheckRedundant(after); n != d.Size || e != api.OK || !isRedundant(after) || !slices.Equal(l, before) {
				t.Fatalf("Synchronized(%v): %v; %d, %v", d, after, n, e)
			}
			again, e := disk.Synchronized(after)
			isDisk(t, "Synchronized again", again, e, after)
		}
	}
}

// P6.6: a changed bit is found, wherever it is.
func TestChangedBit(t *testing.T) {
	q := &sequence{5}
	for range 300 {
		for _, s := range shapes[1:] {
			d := q.redundant(s.kind, s.units)
			if n, e := disk.CheckRedundant(d); n != d.Size || e != api.OK {
				t.Fatalf("CheckRedundant(%v): %d, %v", d, n, e)
			}
			i := q.below(d.Size)
			wrong := &d.Units[q.below(s.units)].Sectors[i]
			bytes := []byte(*wrong)
			bytes[q.below(16)] ^= 1 << q.below(8)
			*wrong = string(bytes)
			if n, e := disk.CheckRedundant(d); n != i || e != api.ErrBroken {
				t.Fatalf("CheckRedundant(%v): %d, %v, not %d", d, n, e, i)
			}
		}
	}
}

// hasSectors says if a disk does not have these sectors.
func hasSectors(t *testing.T, what string, d api.Disk, want []string) {
	t.Helper()
	l, e := disk.SectorsOf(d)
	if !slices.Equal(l, want) || e != api.OK {
		t.Fatalf("%s, of %v: %q, %v, not %q", what, d, l, e, want)
	}
	for i, s := range want {
		if got, e := disk.ReadSector(d, i); got != s || e != api.OK {
			t.Fatalf("%s, sector %d of %v: %q, %v, not %q", what, i, d, got, e, s)
		}
	}
}

// write does writes, to a list of sectors, too.
func write(t *testing.T, d api.Disk, l []api.SectorWrite, sectors []string) api.Disk {
	t.Helper()
	after, n, e := disk.WriteSectors(d, l)
	if n != len(l) || e != api.OK {
		t.Fatalf("WriteSectors(%v, %v): %d, %v", d, l, n, e)
	}
	for _, w := range l {
		sectors[w.Sector] = w.Bytes
	}
	return after
}

// P6.8, P6.9: one failure hides nothing, with and without writes, and what is rebuilt is as without the failure.
func TestOneFailure(t *testing.T) {
	q := &sequence{6}
	for range 60 {
		for _, s := range shapes[1:] {
			for unit := range s.units {
				for _, n := range []int{0, 1, 10} {
					oneFailure(t, q, q.redundant(s.kind, s.units), unit, n)
				}
			}
		}
	}
}

// oneFailure lets a unit fail, with so many writes in each state of it.
func oneFailure(t *testing.T, q *sequence, d api.Disk, unit, n int) {
	t.Helper()
	sectors, _ := disk.SectorsOf(d)
	bad, e := disk.Failed(d, unit)
	if e != api.OK {
		t.Fatalf("Failed(%v, %d): %v", d, unit, e)
	}
	hasSectors(t, "after a unit failed", bad, sectors)
	l := q.writes(d, n)
	bad, d = write(t, bad, l, sectors), write(t, d, l, sectors)
	hasSectors(t, "written after a unit failed", bad, sectors)
	bad, e = disk.Replaced(bad, unit)
	if e != api.OK {
		t.Fatalf("Replaced(%v, %d): %v", bad, unit, e)
	}
	hasSectors(t, "after a unit was replaced", bad, sectors)
	l = q.writes(d, n)
	bad, d = write(t, bad, l, sectors), write(t, d, l, sectors)
	hasSectors(t, "written after a unit was replaced", bad, sectors)
	bad, e = disk.Rebuilt(bad, unit)
	isDisk(t, "Rebuilt", bad, e, d)
	hasSectors(t, "after a unit was rebuilt", bad, sectors)
	if count, e := disk.CheckRedundant(bad); count != d.Size || e != api.OK {
		t.Fatalf("CheckRedundant(%v): %d, %v", bad, count, e)
	}
}

// P6.10: whatever is kept of some writes, each sector is old or new.
func TestOldOrNew(t *testing.T) {
	q := &sequence{7}
	for range 20 {
		for _, s := range shapes {
			d := q.redundant(s.kind, s.units)
			l := q.writes(d, 1+q.below(4))
			all, _ := disk.WritesFor(d, l)
			for set := range 1 << len(all) {
				var kept []int
				for i := range all {
					if set>>i&1 > 0 {
						kept = append(kept, i)
					}
				}
				oldOrNew(t, d, l, kept)
			}
		}
	}
}

func oldOrNew(t *testing.T, d api.Disk, l []api.SectorWrite, kept []int) {
	t.Helper()
	failed, e := disk.PowerFailed(d, l, kept)
	after, f := disk.Synchronized(failed)
	if n, g := disk.CheckRedundant(after); e != api.OK || f != api.OK || n != d.Size || g != api.OK {
		t.Fatalf("PowerFailed(%v, %v, %v): %v, %v; %v, %v; %d, %v", d, l, kept, failed, e, after, f, n, g)
	}
	before, _ := disk.SectorsOf(d)
	now, _ := disk.SectorsOf(after)
	if len(now) != len(before) {
		t.Fatalf("PowerFailed(%v, %v, %v): %q", d, l, kept, now)
	}
	for i, s := range now {
		if s != before[i] && !slices.Contains(l, api.SectorWrite{Sector: i, Bytes: s}) {
			t.Fatalf("PowerFailed(%v, %v, %v): sector %d is %q", d, l, kept, i, s)
		}
	}
}

// P6.11: a power failure that keeps all is none, and one that keeps nothing leaves the disk as it was, in all states that can be written.
func TestKeptWholly(t *testing.T) {
	q := &sequence{8}
	for range 10 {
		everyDisk(q, func(d api.Disk) {
			l := q.writes(d, q.below(5))
			want, _, e := disk.WriteSectors(d, l)
			if e != api.OK {
				return
			}
			all, _ := disk.WritesFor(d, l)
			var kept []int
			for i := range all {
				kept = append(kept, i)
			}
			after, e := disk.PowerFailed(d, l, kept)
			isDisk(t, "PowerFailed with all", after, e, want)
			after, e = disk.PowerFailed(d, l, nil)
			isDisk(t, "PowerFailed with none", after, e, d)
		})
	}
}

// results are disks that calls return, in all ways in which they can be returned.
func results(q *sequence, d api.Disk) []api.Disk {
	l := q.writes(d, 3)
	written, _, _ := disk.WriteSectors(d, l)
	same, _, _ := disk.WriteSectors(d, nil)
	kept, _ := disk.PowerFailed(d, l, []int{0})
	none, _ := disk.PowerFailed(d, nil, nil)
	synchronized, _ := disk.Synchronized(d)
	fresh, _ := disk.NewDisk(d.Kind, len(d.Units), d.Size)
	all := []api.Disk{written, same, kept, none, synchronized, fresh}
	for i := range d.Units {
		bad, _ := disk.Failed(d, i)
		replaced, _ := disk.Replaced(bad, i)
		other, _ := disk.Replaced(d, i)
		rebuilt, _ := disk.Rebuilt(replaced, i)
		again, _ := disk.Rebuilt(d, i)
		all = append(all, bad, replaced, other, rebuilt, again)
	}
	return all
}

// All calls: arguments stay as they are, and results have memory of their own.
func TestOwnMemory(t *testing.T) {
	everyDisk(&sequence{9}, func(d api.Disk) {
		before := cloneOf(d)
		first, second := results(&sequence{10}, d), results(&sequence{10}, d)
		if !same(d, before) {
			t.Fatalf("%v has become %v", before, d)
		}
		for i, got := range first {
			scribble(got)
			if !isScribbled(got) {
				t.Fatalf("result %d for %v has a slice twice", i, d)
			}
		}
		for i, got := range results(&sequence{10}, d) {
			if !same(d, before) || !same(got, second[i]) {
				t.Fatalf("result %d for %v shares memory", i, before)
			}
		}
	})
}

// scribble writes other bytes to each sector.
func scribble(d api.Disk) {
	for i := range d.Units {
		d.Units[i].State = -i
		for j := range d.Units[i].Sectors {
			d.Units[i].Sectors[j] = string([]byte{byte(i), byte(j)})
		}
	}
}

func isScribbled(d api.Disk) bool {
	for i, u := range d.Units {
		for j, s := range u.Sectors {
			if u.State != -i || s != string([]byte{byte(i), byte(j)}) {
				return false
			}
		}
	}
	return true
}
