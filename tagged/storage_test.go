package tagged_test

import (
	"math"
	"slices"
	"strings"
	"testing"

	"midrange/api"
	"midrange/tagged"
)

// storageOf returns a storage whose quadwords are pointers with tags, and texts with zero bytes behind them.
func storageOf(parts ...any) api.Storage {
	var s api.Storage
	for _, part := range parts {
		quad, tag := "", false
		switch x := part.(type) {
		case string:
			quad = x + strings.Repeat("\x00", 16-len(x))
		case api.Pointer:
			quad, _ = tagged.PointerBytes(x)
			tag = true
		}
		s.Bytes += quad
		s.Tags = append(s.Tags, tag)
	}
	return s
}

func isNothing(s api.Storage) bool { return s.Bytes == "" && len(s.Tags) == 0 }

func same(a, b api.Storage) bool {
	return a.Bytes == b.Bytes && slices.Equal(a.Tags, b.Tags)
}

func copyOf(s api.Storage) api.Storage {
	return api.Storage{Bytes: s.Bytes, Tags: slices.Clone(s.Tags)}
}

// wrongStorages have the errors of CheckStorage, the first one first.
var wrongStorages = []struct {
	s  api.Storage
	at int
	e  api.Errno
}{
	{api.Storage{Bytes: strings.Repeat("\x00", 1040), Tags: make([]bool, 65)}, 0, api.ErrLarge}, {api.Storage{Bytes: strings.Repeat("\x00", 1025)}, 0, api.ErrLarge}, {api.Storage{Bytes: strings.Repeat("\xff", 100000), Tags: []bool{true}}, 0, api.ErrLarge},
	{api.Storage{Bytes: "\x00", Tags: []bool{false}}, 0, api.ErrLength}, {api.Storage{Bytes: strings.Repeat("\xff", 17), Tags: []bool{true}}, 0, api.ErrLength}, {api.Storage{Bytes: strings.Repeat("\x00", 1023), Tags: make([]bool, 64)}, 0, api.ErrLength}, {api.Storage{Bytes: strings.Repeat("\x00", 15)}, 0, api.ErrLength},
	{api.Storage{Tags: []bool{false}}, 0, api.ErrShape}, {api.Storage{Bytes: strings.Repeat("\xff", 16)}, 0, api.ErrShape}, {api.Storage{Bytes: strings.Repeat("\xff", 32), Tags: []bool{true}}, 0, api.ErrShape}, {api.Storage{Bytes: strings.Repeat("\xff", 32), Tags: []bool{true, true, true}}, 0, api.ErrShape}, {api.Storage{Bytes: strings.Repeat("\x00", 16), Tags: make([]bool, 16)}, 0, api.ErrShape},
	{api.Storage{Bytes: strings.Repeat("\xff", 16), Tags: []bool{true}}, 0, api.ErrPointer}, {api.Storage{Bytes: strings.Repeat("\xff", 64), Tags: []bool{false, false, true, true}}, 2, api.ErrPointer}, {api.Storage{Bytes: strings.Repeat("\x00", 1009) + "\x01" + strings.Repeat("\x00", 14), Tags: append(make([]bool, 63), true)}, 63, api.ErrPointer},
	{api.Storage{Bytes: strings.Repeat("\x00", 19) + "\x01" + strings.Repeat("\x00", 12), Tags: []bool{true, true}}, 1, api.ErrPointer},
}

// P3.2: right storages, and wrong ones.
func TestCheckStorage(t *testing.T) {
	for _, x := range []struct {
		s api.Storage
		n int
	}{
		{api.Storage{}, 0}, {api.Storage{Tags: []bool{}}, 0}, {storageOf("a"), 1}, {storageOf("a", space(1, 2), "", system(258, 3, 5)), 4}, {storageOf(space(0, 0)), 1}, {storageOf(strings.Repeat("\xff", 16)), 1},
		{api.Storage{Bytes: strings.Repeat("\xff", 1024), Tags: make([]bool, 64)}, 64}, {api.Storage{Bytes: strings.Repeat("\x00", 1024), Tags: slices.Repeat([]bool{true}, 64)}, 64}, {api.Storage{Bytes: strings.Repeat("\x00", 1023) + "\x01", Tags: append(make([]bool, 63), true)}, 64},
	} {
		if n, e := tagged.CheckStorage(x.s); n != x.n || e != api.OK {
			t.Errorf("CheckStorage(%v): %d, %v", x.s, n, e)
		}
	}
	for _, x := range wrongStorages {
		if n, e := tagged.CheckStorage(x.s); n != x.at || e != x.e {
			t.Errorf("CheckStorage(% x, %v): %d, %v, not %d, %v", x.s.Bytes, x.s.Tags, n, e, x.at, x.e)
		}
	}
}

// P3.2: new storages.
func TestNewStorage(t *testing.T) {
	for quads := range 65 {
		want := api.Storage{Bytes: strings.Repeat("\x00", 16*quads), Tags: make([]bool, quads)}
		if s, e := tagged.NewStorage(quads); !same(s, want) || e != api.OK {
			t.Errorf("NewStorage(%d): %v, %v", quads, s, e)
		}
	}
	for _, quads := range []int{-1, 65, math.MinInt, math.MaxInt} {
		if s, e := tagged.NewStorage(quads); !isNothing(s) || e != api.ErrRange {
			t.Errorf("NewStorage(%d): %v, %v", quads, s, e)
		}
	}
}

// P3.3 to P3.7: the error of the storage comes before all others.
func TestErrorsOfStorages(t *testing.T) {
	for _, x := range wrongStorages {
		texts, numbers, storages := callWrong(x.s)
		for i, c := range texts {
			if c.s != "" || c.e != x.e {
				t.Errorf("text %d of %v: %q, %v, not %v", i, x.s.Tags, c.s, c.e, x.e)
			}
		}
		for i, c := range numbers {
			if c.n != 0 || c.e != x.e {
				t.Errorf("number %d of %v: %v, %v, not %v", i, x.s.Tags, c.n, c.e, x.e)
			}
		}
		for i, c := range storages {
			if !isNothing(c.s) || c.e != x.e {
				t.Errorf("storage %d of %v: %v, %v, not %v", i, x.s.Tags, c.s, c.e, x.e)
			}
		}
	}
}

type textResult struct {
	s string
	e api.Errno
}

type numberResult struct {
	n int
	e api.Errno
}

type storageResult struct {
	s api.Storage
	e api.Errno
}

// callWrong calls all functions with a storage, with arguments that are wrong, too, and with right ones.
func callWrong(s api.Storage) (texts []textResult, numbers []numberResult, storages []storageResult) {
	for _, at := range []int{-1, 0} {
		text, e := tagged.ReadBytes(s, at, 0)
		texts = append(texts, textResult{text, e})
		p, e := tagged.LoadPointer(s, at)
		numbers = append(numbers, numberResult{p.Kind + p.Authority + p.Address.Segment + p.Address.Offset, e})
		n, e := tagged.FindBytes(s, at, "")
		numbers = append(numbers, numberResult{n, e})
		for _, call := range []func() (api.Storage, api.Errno){
			func() (api.Storage, api.Errno) { return tagged.WriteBytes(s, at, "") },
			func() (api.Storage, api.Errno) { return tagged.StorePointer(s, at, api.Pointer{Kind: -1}) },
			func() (api.Storage, api.Errno) { return tagged.CopyBytes(s, api.CopyRange{From: at}) },
			func() (api.Storage, api.Errno) { return tagged.CopyWithTags(s, api.CopyRange{From: at, To: 1}) },
		} {
			out, e := call()
			storages = append(storages, storageResult{out, e})
		}
	}
	text, e := tagged.Dump(s)
	texts = append(texts, textResult{text, e})
	l, e := tagged.PointersIn(s)
	numbers = append(numbers, numberResult{len(l), e})
	return texts, numbers, storages
}

// P3.3: bytes that are read.
func TestReadBytes(t *testing.T) {
	s := storageOf("abcdef", system(258, 3, 5), "ghi")
	for _, x := range []struct {
		at, n int
		want  string
		e     api.Errno
	}{
		{0, 3, "abc", api.OK}, {4, 4, "ef\x00\x00", api.OK}, {0, 48, s.Bytes, api.OK}, {15, 2, "\x00\x01", api.OK}, {32, 16, "ghi" + strings.Repeat("\x00", 13), api.OK}, {47, 1, "\x00", api.OK}, {0, 0, "", api.OK}, {48, 0, "", api.OK}, {7, 0, "", api.OK},
		{-1, 1, "", api.ErrRange}, {0, -1, "", api.ErrRange}, {5, -1, "", api.ErrRange}, {-1, 0, "", api.ErrRange}, {48, 1, "", api.ErrRange}, {0, 49, "", api.ErrRange}, {47, 2, "", api.ErrRange}, {49, 0, "", api.ErrRange}, {49, -1, "", api.ErrRange},
		{1, math.MaxInt, "", api.ErrRange}, {math.MaxInt, 1, "", api.ErrRange}, {math.MaxInt, math.MaxInt, "", api.ErrRange}, {math.MinInt, math.MinInt, "", api.ErrRange}, {math.MinInt, math.MaxInt, "", api.ErrRange}, {16, math.MinInt, "", api.ErrRange},
	} {
		if got, e := tagged.ReadBytes(s, x.at, x.n); got != x.want || e != x.e {
			t.Errorf("ReadBytes(%d, %d): % x, %v", x.at, x.n, got, e)
		}
	}
}

// writtenBy writes byte by byte.
func writtenBy(s api.Storage, at int, data string) api.Storage {
	bytes, tags := []byte(s.Bytes), slices.Clone(s.Tags)
	for i := range len(data) {
		bytes[at+i] = data[i]
		tags[(at+i)/16] = false
	}
	return api.Storage{Bytes: string(bytes), Tags: tags}
}

// P3.3: bytes that are written, and the tags that are lost, at all places. The argument stays as it is.
func TestWriteBytes(t *testing.T) {
	s := storageOf(space(1, 2), system(258, 3, 5), "", procedure(4, 5))
	before := copyOf(s)
	data := "a\x00\xffb\xc3\xa9 " + strings.Repeat("x", 60) // more than one byte of a letter, too
	for at := range 65 {
		for n := range 65 - at {
			got, e := tagged.WriteBytes(s, at, data[:n])
			if !same(got, writtenBy(s, at, data[:n])) || e != api.OK || !same(s, before) {
				t.Fatalf("WriteBytes(%d, %q): %v, %v", at, data[:n], got, e)
			}
		}
	}
	if got, _ := tagged.WriteBytes(s, 31, "x"); !slices.Equal(got.Tags, []bool{true, false, false, true}) {
		t.Errorf("after a byte at 31: %v", got.Tags)
	}
	if got, _ := tagged.WriteBytes(s, 32, "x"); !slices.Equal(got.Tags, before.Tags) {
		t.Errorf("after a byte at 32: %v", got.Tags)
	}
	if got, _ := tagged.WriteBytes(s, 20, ""); !same(got, before) {
		t.Errorf("after no byte: %v", got)
	}
	if got, _ := tagged.WriteBytes(s, 16, s.Bytes[16:17]); got.Bytes != s.Bytes || got.Tags[1] {
		t.Errorf("after the same byte: %v", got)
	}
	for _, x := range []struct {
		at   int
		data string
	}{{-1, ""}, {-1, "ab"}, {64, "a"}, {65, ""}, {63, "ab"}, {0, strings.Repeat("x", 65)}, {math.MaxInt, "a"}, {math.MinInt, "a"}, {math.MaxInt, ""}} {
		if got, e := tagged.WriteBytes(s, x.at, x.data); !isNothing(got) || e != api.ErrRange {
			t.Errorf("WriteBytes(%d, %q): %v, %v", x.at, x.data, got, e)
		}
	}
}

// P3.4: pointers that are loaded.
func TestLoadPointer(t *testing.T) {
	s := storageOf(space(1, 2), "\x01", system(258, 3, 5), strings.Repeat("\xff", 16))
	for _, x := range []struct {
		at int
		p  api.Pointer
		e  api.Errno
	}{
		{0, space(1, 2), api.OK}, {32, system(258, 3, 5), api.OK}, {16, api.Pointer{}, api.ErrPointer}, {48, api.Pointer{}, api.ErrPointer},
		{1, api.Pointer{}, api.ErrRange}, {8, api.Pointer{}, api.ErrRange}, {15, api.Pointer{}, api.ErrRange}, {17, api.Pointer{}, api.ErrRange}, {64, api.Pointer{}, api.ErrRange}, {80, api.Pointer{}, api.ErrRange}, {-16, api.Pointer{}, api.ErrRange}, {-1, api.Pointer{}, api.ErrRange}, {math.MinInt, api.Pointer{}, api.ErrRange}, {math.MaxInt, api.Pointer{}, api.ErrRange}, {math.MaxInt - 15, api.Pointer{}, api.ErrRange},
	} {
		if p, e := tagged.LoadPointer(s, x.at); p != x.p || e != x.e {
			t.Errorf("LoadPointer(%d): %v, %v, not %v, %v", x.at, p, e, x.p, x.e)
		}
	}
	if p, e := tagged.LoadPointer(api.Storage{}, 0); p != (api.Pointer{}) || e != api.ErrRange {
		t.Errorf("LoadPointer of no storage: %v, %v", p, e)
	}
}

// P3.4: pointers that are stored. The argument stays as it is.
func TestStorePointer(t *testing.T) {
	s := storageOf("abc", space(1, 2), strings.Repeat("\xff", 16))
	before := copyOf(s)
	p := system(258, 3, 5)
	for _, x := range []struct {
		at   int
		want api.Storage
	}{{0, storageOf(p, space(1, 2), strings.Repeat("\xff", 16))}, {16, storageOf("abc", p, strings.Repeat("\xff", 16))}, {32, storageOf("abc", space(1, 2), p)}} {
		if got, e := tagged.StorePointer(s, x.at, p); !same(got, x.want) || e != api.OK || !same(s, before) {
			t.Errorf("StorePointer(%d): %v, %v", x.at, got, e)
		}
	}
	for _, at := range []int{-16, -1, 1, 8, 15, 31, 33, 47, 48, 64, math.MinInt, math.MaxInt, math.MaxInt - 15} {
		if got, e := tagged.StorePointer(s, at, api.Pointer{Kind: -1}); !isNothing(got) || e != api.ErrRange {
			t.Errorf("StorePointer(%d): %v, %v", at, got, e)
		}
	}
}

// copiedBy copies byte by byte, and tags, if they are asked for, quadword by quadword.
func copiedBy(s api.Storage, r api.CopyRange, withTags bool) api.Storage {
	out := writtenBy(s, r.To, s.Bytes[r.From:r.From+r.Length])
	for i := range out.Tags {
		if withTags && 16*i >= r.To && 16*i+16 <= r.To+r.Length {
			out.Tags[i] = s.Tags[(16*i-r.To+r.From)/16]
		}
	}
	return out
}

// P3.5: copies of all ranges of a storage. The argument stays as it is.
func TestCopies(t *testing.T) {
	s := storageOf(space(1, 2), "abcdefghijklmnop", system(258, 3, 5), procedure(4, 5), "q")
	before := copyOf(s)
	for from := range 81 {
		for to := range 81 {
			for n := range 81 - max(from, to) {
				r := api.CopyRange{From: from, To: to, Length: n}
				if got, e := tagged.CopyBytes(s, r); !same(got, copiedBy(s, r, false)) || e != api.OK {
					t.Fatalf("CopyBytes(%v): %v, %v", r, got, e)
				}
				got, e := tagged.CopyWithTags(s, r)
				if from%16 != to%16 {
					if !isNothing(got) || e != api.ErrClash {
						t.Fatalf("CopyWithTags(%v): %v, %v", r, got, e)
					}
				} else if !same(got, copiedBy(s, r, true)) || e != api.OK {
					t.Fatalf("CopyWithTags(%v): %v, %v", r, got, e)
				}
			}
		}
	}
	if !same(s, before) {
		t.Errorf("the storage became %v", s)
	}
}

// P3.5: copies by hand: of a quadword onto itself, of ranges that overlap, of parts.
func TestCopiesByHand(t *testing.T) {
	p, q := space(1, 2), system(258, 3, 5)
	s := storageOf(p, "ab", q)
	bytes := func(p api.Pointer) string { b, _ := tagged.PointerBytes(p); return b }
	for _, x := range []struct {
		r            api.CopyRange
		plain, whole api.Storage
	}{
		{api.CopyRange{From: 0, To: 0, Length: 16}, storageOf(bytes(p), "ab", q), s},
		{api.CopyRange{From: 0, To: 16, Length: 32}, storageOf(p, bytes(p), "ab"), storageOf(p, p, "ab")},
		{api.CopyRange{From: 16, To: 0, Length: 32}, storageOf("ab", bytes(q), q), storageOf("ab", q, q)},
		{api.CopyRange{From: 32, To: 0, Length: 15}, storageOf(bytes(q)[:15]+bytes(p)[15:], "ab", q), storageOf(bytes(q)[:15]+bytes(p)[15:], "ab", q)},
		{api.CopyRange{From: 3, To: 3, Length: 5}, storageOf(bytes(p), "ab", q), storageOf(bytes(p), "ab", q)},
		{api.CopyRange{From: 8, To: 8, Length: 40}, storageOf(bytes(p), "ab", bytes(q)), storageOf(bytes(p), "ab", q)},
		{api.CopyRange{From: 5, To: 37, Length: 0}, s, s}, {api.CopyRange{From: 48, To: 48, Length: 0}, s, s}, {api.CopyRange{From: 48, To: 0, Length: 0}, s, s},
	} {
		if got, e := tagged.CopyBytes(s, x.r); !same(got, x.plain) || e != api.OK {
			t.Errorf("CopyBytes(%v): %v, %v", x.r, got, e)
		}
		if got, e := tagged.CopyWithTags(s, x.r); !same(got, x.whole) || e != api.OK {
			t.Errorf("CopyWithTags(%v): %v, %v", x.r, got, e)
		}
	}
}

// P3.5: ranges that are not in the storage; only then different remainders.
func TestCopyErrors(t *testing.T) {
	s := storageOf(space(1, 2), "ab", system(258, 3, 5))
	for _, r := range []api.CopyRange{
		{From: -1}, {To: -1}, {Length: -1}, {From: 16, To: 16, Length: -16}, {From: 49}, {To: 49}, {From: 48, Length: 1}, {To: 48, Length: 1}, {From: 33, Length: 16}, {To: 33, Length: 16}, {Length: 49}, {From: -16, To: 0, Length: 16}, {To: -16, Length: 16},
		{Length: math.MaxInt}, {From: 1, Length: math.MaxInt}, {From: math.MaxInt, Length: 1}, {To: math.MaxInt, Length: 1}, {From: math.MaxInt, To: math.MaxInt, Length: math.MaxInt}, {From: math.MinInt, To: math.MinInt, Length: math.MinInt}, {Length: math.MinInt},
	} {
		if got, e := tagged.CopyBytes(s, r); !isNothing(got) || e != api.ErrRange {
			t.Errorf("CopyBytes(%v): %v, %v", r, got, e)
		}
		if got, e := tagged.CopyWithTags(s, r); !isNothing(got) || e != api.ErrRange {
			t.Errorf("CopyWithTags(%v): %v, %v", r, got, e)
		}
	}
	for _, r := range []api.CopyRange{{From: 1, To: 0, Length: 16}, {From: 0, To: 8, Length: 1}, {From: 0, To: 1}} {
		if got, e := tagged.CopyWithTags(s, r); !isNothing(got) || e != api.ErrClash {
			t.Errorf("CopyWithTags(%v): %v, %v", r, got, e)
		}
	}
}

// P3.6: the lowest offset of a pattern.
func TestFindBytes(t *testing.T) {
	s := storageOf("abcabc", system(258, 3, 5), "xbc")
	for _, x := range []struct {
		at      int
		pattern string
		want    int
		e       api.Errno
	}{
		{0, "abc", 0, api.OK}, {1, "abc", 3, api.OK}, {3, "abc", 3, api.OK}, {2, "bc", 4, api.OK}, {5, "bc", 33, api.OK}, {0, "\x00\x01\x00", 15, api.OK}, {0, "\x01\x02", 24, api.OK}, {0, s.Bytes, 0, api.OK}, {47, "\x00", 47, api.OK}, {6, "\x00", 6, api.OK},
		{4, "abc", 0, api.ErrNone}, {48, "\x00", 0, api.ErrNone}, {47, "\x00\x00", 0, api.ErrNone}, {1, s.Bytes, 0, api.ErrNone}, {0, s.Bytes + "\x00", 0, api.ErrNone}, {0, "ABC", 0, api.ErrNone}, {0, strings.Repeat("a", 100000), 0, api.ErrNone},
		{0, "", 0, api.ErrEmpty}, {48, "", 0, api.ErrEmpty},
		{-1, "abc", 0, api.ErrRange}, {49, "abc", 0, api.ErrRange}, {49, "", 0, api.ErrRange}, {math.MinInt, "a", 0, api.ErrRange}, {math.MaxInt, "a", 0, api.ErrRange},
	} {
		if n, e := tagged.FindBytes(s, x.at, x.pattern); n != x.want || e != x.e {
			t.Errorf("FindBytes(%d, %q): %d, %v, not %d, %v", x.at, x.pattern, n, e, x.want, x.e)
		}
	}
	if n, e := tagged.FindBytes(api.Storage{}, 0, "a"); n != 0 || e != api.ErrNone {
		t.Errorf("FindBytes in no storage: %d, %v", n, e)
	}
}

// P3.6: the offsets of the pointers.
func TestPointersIn(t *testing.T) {
	for _, x := range []struct {
		s    api.Storage
		want []int
	}{
		{api.Storage{}, nil}, {storageOf("a", "\x01"), nil}, {storageOf(space(1, 2)), []int{0}}, {storageOf("a", space(1, 2), "", system(258, 3, 5), procedure(0, 0)), []int{16, 48, 64}},
		{api.Storage{Bytes: strings.Repeat("\x00", 1024), Tags: append(make([]bool, 63), true)}, []int{1008}},
	} {
		if l, e := tagged.PointersIn(x.s); !slices.Equal(l, x.want) || e != api.OK {
			t.Errorf("PointersIn(%v): %v, %v", x.s, l, e)
		}
	}
}
