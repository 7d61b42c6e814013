package tagged_test

import (
	"math"
	"slices"
	"strings"
	"testing"

	"midrange/api"
	"midrange/tagged"
)

// sequence makes numbers that look like random ones, the same in each run.
type sequence struct{ state uint64 }

func (q *sequence) below(n int) int {
	q.state = q.state*6364136223846793005 + 1442695040888963407
	return int(q.state>>33) % n
}

func (q *sequence) pointer() api.Pointer {
	p := api.Pointer{Kind: q.below(api.PointerKinds), Address: api.Address{Segment: q.below(1<<20)<<20 | q.below(1<<20), Offset: q.below(1 << 24)}}
	if q.below(3) == 0 {
		p.Address = api.Address{Segment: q.below(2), Offset: q.below(2)}
	}
	if p.Kind == api.PointerSystem {
		p.Authority = q.below(api.AuthAll + 1)
	}
	return p
}

// storage returns a storage in which pointers, and bytes that occur often, are frequent.
func (q *sequence) storage() api.Storage {
	var parts []any
	for range q.below(10) {
		switch q.below(3) {
		case 0:
			parts = append(parts, q.pointer())
		case 1:
			parts = append(parts, strings.Repeat(string([]byte{byte(q.below(2))}), 16))
		default:
			bytes, _ := tagged.PointerBytes(q.pointer())
			parts = append(parts, bytes)
		}
	}
	return storageOf(parts...)
}

// quads returns the bytes of the quadwords with tags, and their indexes.
func quads(s api.Storage) map[int]string {
	m := map[int]string{}
	for i, tag := range s.Tags {
		if tag {
			m[i] = s.Bytes[16*i : 16*i+16]
		}
	}
	return m
}

// P3.8: what has a tag after bytes were written or copied had it before, with the same bytes.
func TestBytesMakeNoPointers(t *testing.T) {
	q := &sequence{1}
	for range 20000 {
		s := q.storage()
		at, data := q.below(len(s.Bytes)+1), ""
		if n := q.below(len(s.Bytes) - at + 1); q.below(2) == 0 {
			data = s.Bytes[at : at+n] // the same bytes
		} else {
			bytes, _ := tagged.PointerBytes(q.pointer())
			data = strings.Repeat(bytes, 10)[:n]
		}
		written, e := tagged.WriteBytes(s, at, data)
		stays(t, s, written, e)
		copied, e := tagged.CopyBytes(s, q.copyOf(s))
		stays(t, s, copied, e)
	}
}

func (q *sequence) copyOf(s api.Storage) api.CopyRange {
	r := api.CopyRange{From: q.below(len(s.Bytes) + 1), To: q.below(len(s.Bytes) + 1)}
	if q.below(2) == 0 {
		r.From, r.To = r.From/16*16, r.To/16*16
	}
	r.Length = q.below(len(s.Bytes) - max(r.From, r.To) + 1)
	return r
}

func stays(t *testing.T, before, after api.Storage, e api.Errno) {
	t.Helper()
	old := quads(before)
	for i, b := range quads(after) {
		if old[i] != b {
			t.Errorf("quadword %d became the pointer % x: %v, then %v", i, b, before, after)
		}
	}
	if n, f := tagged.CheckStorage(after); e != api.OK || f != api.OK || n != len(before.Tags) {
		t.Errorf("%v became %v, %v: %d, %v", before, after, e, n, f)
	}
}

// P3.8: each pointer after a copy with tags was there before.
func TestCopiesMakeNoPointers(t *testing.T) {
	q := &sequence{2}
	moved := 0
	for range 20000 {
		s := q.storage()
		r := q.copyOf(s)
		r.To = min(r.To/16*16+r.From%16, len(s.Bytes)-r.Length)
		after, e := tagged.CopyWithTags(s, r)
		if e == api.ErrClash {
			continue
		}
		old := quads(s)
		for i, b := range quads(after) {
			found := false
			for _, a := range old {
				found = found || a == b
			}
			if !found {
				t.Errorf("quadword %d became the pointer % x: %v by %v", i, b, s, r)
			}
			if old[i] != b {
				moved++
			}
		}
		if n, f := tagged.CheckStorage(after); e != api.OK || f != api.OK || n != len(s.Tags) {
			t.Errorf("%v by %v: %v, %v", s, r, e, f)
		}
	}
	if moved < 1000 {
		t.Errorf("only %d pointers were moved", moved)
	}
}

// P3.9: pointers are read from their bytes, and loaded as they were stored.
func TestPointersBack(t *testing.T) {
	q := &sequence{3}
	for range 20000 {
		p, s := q.pointer(), q.storage()
		bytes, e := tagged.PointerBytes(p)
		if back, f := tagged.PointerIn(bytes); back != p || e != api.OK || f != api.OK {
			t.Errorf("%v: % x, %v; %v, %v", p, bytes, e, back, f)
		}
		if len(s.Tags) == 0 {
			continue
		}
		at := 16 * q.below(len(s.Tags))
		after, e := tagged.StorePointer(s, at, p)
		if back, f := tagged.LoadPointer(after, at); back != p || e != api.OK || f != api.OK {
			t.Errorf("%v stored in %v at %d: %v, %v, %v", p, s, at, e, back, f)
		}
		old, now := quads(s), quads(after)
		delete(old, at/16)
		delete(now, at/16)
		if len(old) != len(now) || after.Bytes != s.Bytes[:at]+bytes+s.Bytes[at+16:] {
			t.Errorf("%v stored in %v at %d: %v", p, s, at, after)
		}
	}
}

// P3.7, P3.9: dumps are as the definition says, and are read as their storages.
func TestDumpsBack(t *testing.T) {
	q := &sequence{4}
	for range 20000 {
		s := q.storage()
		text, e := tagged.Dump(s)
		if text != dumpBy(s) || e != api.OK {
			t.Errorf("Dump(%v): %q, %v", s, text, e)
		}
		if back, at, e := tagged.ParseDump(text); !same(back, s) || at != 0 || e != api.OK {
			t.Errorf("ParseDump(%q): %v, %d, %v", text, back, at, e)
		}
	}
}

// A result is memory of its own: who changes it changes nothing else.
func TestResultsAreNew(t *testing.T) {
	s := storageOf(space(1, 2), "ab")
	before := copyOf(s)
	results := []func() (api.Storage, api.Errno){
		func() (api.Storage, api.Errno) { return tagged.WriteBytes(s, 0, "") },
		func() (api.Storage, api.Errno) { return tagged.StorePointer(s, 16, space(1, 2)) },
		func() (api.Storage, api.Errno) { return tagged.CopyBytes(s, api.CopyRange{}) },
		func() (api.Storage, api.Errno) { return tagged.CopyWithTags(s, api.CopyRange{}) },
	}
	for i, call := range results {
		out, _ := call()
		for j := range out.Tags {
			out.Tags[j] = !out.Tags[j]
		}
		if !slices.Equal(s.Tags, before.Tags) {
			t.Fatalf("result %d shares its tags", i)
		}
	}
}

// R1, R2: every call returns, and beside an error there is nothing else.
func TestEveryCallReturns(t *testing.T) {
	edges := []int{math.MinInt, math.MinInt + 1, -17, -16, -1, 0, 1, 15, 16, 17, 31, 32, 33, 1023, 1024, 1025, math.MaxInt - 16, math.MaxInt - 15, math.MaxInt}
	storages := []api.Storage{{}, storageOf(space(1, 2), "ab"), {Bytes: "x"}, {Tags: []bool{true}}, {Bytes: strings.Repeat("\xff", 32), Tags: []bool{true, true}}, {Bytes: strings.Repeat("\x00", 1024), Tags: make([]bool, 64)}}
	for _, s := range storages {
		for _, a := range edges {
			for _, b := range edges {
				callAll(t, s, a, b)
				for _, c := range edges {
					r := api.CopyRange{From: a, To: b, Length: c}
					if out, e := tagged.CopyBytes(s, r); e != api.OK && !isNothing(out) {
						t.Errorf("CopyBytes(%v): %v, %v", r, out, e)
					}
					if out, e := tagged.CopyWithTags(s, r); e != api.OK && !isNothing(out) {
						t.Errorf("CopyWithTags(%v): %v, %v", r, out, e)
					}
				}
			}
		}
	}
}

func callAll(t *testing.T, s api.Storage, a, b int) {
	p := api.Pointer{Kind: a, Address: api.Address{Segment: b, Offset: a}, Authority: b}
	if bytes, e := tagged.PointerBytes(p); (e == api.OK) != (len(bytes) == 16) {
		t.Errorf("PointerBytes(%v): % x, %v", p, bytes, e)
	}
	if out, e := tagged.StorePointer(s, a, p); e != api.OK && !isNothing(out) {
		t.Errorf("StorePointer(%d, %v): %v, %v", a, p, out, e)
	}
	if q, e := tagged.LoadPointer(s, a); e != api.OK && q != (api.Pointer{}) {
		t.Errorf("LoadPointer(%d): %v, %v", a, q, e)
	}
	if bytes, e := tagged.ReadBytes(s, a, b); e != api.OK && bytes != "" {
		t.Errorf("ReadBytes(%d, %d): % x, %v", a, b, bytes, e)
	}
	if out, e := tagged.WriteBytes(s, a, "abc"); e != api.OK && !isNothing(out) {
		t.Errorf("WriteBytes(%d): %v, %v", a, out, e)
	}
	if n, e := tagged.FindBytes(s, a, "\x00"); e != api.OK && n != 0 {
		t.Errorf("FindBytes(%d): %d, %v", a, n, e)
	}
	if out, e := tagged.NewStorage(a); e != api.OK && !isNothing(out) {
		t.Errorf("NewStorage(%d): %v, %v", a, out, e)
	}
}
