package tagged_test

import (
	"math"
	"strings"
	"testing"

	"midrange/api"
	"midrange/tagged"
)

func space(segment, offset int) api.Pointer {
	return api.Pointer{Kind: api.PointerSpace, Address: api.Address{Segment: segment, Offset: offset}}
}

func system(segment, offset, authority int) api.Pointer {
	return api.Pointer{Kind: api.PointerSystem, Address: api.Address{Segment: segment, Offset: offset}, Authority: authority}
}

func procedure(segment, number int) api.Pointer {
	return api.Pointer{Kind: api.PointerProcedure, Address: api.Address{Segment: segment, Offset: number}}
}

// P3.1, P3.9: the bytes of pointers, which are read back.
func TestBytesOfPointers(t *testing.T) {
	for _, x := range []struct {
		p api.Pointer
		s string
	}{
		{system(258, 3, 5), "\x01\x00\x00\x05\x00\x00\x00\x00\x01\x02\x00\x00\x00\x00\x00\x03"},
		{space(0, 0), strings.Repeat("\x00", 16)},
		{system(0, 0, 0), "\x01" + strings.Repeat("\x00", 15)},
		{procedure(1, 2), "\x02\x00\x00\x00\x00\x00\x00\x00\x00\x01\x00\x00\x00\x00\x00\x02"},
		{space(0x123456789a, 0xbcdef0), "\x00\x00\x00\x00\x00\x12\x34\x56\x78\x9a\x00\x00\x00\xbc\xde\xf0"},
		{system(api.MaxPointerSegment, api.MaxPointerOffset, api.AuthAll), "\x01\x00\x03\xff\x00\xff\xff\xff\xff\xff\x00\x00\x00\xff\xff\xff"},
		{procedure(api.MaxPointerSegment, api.MaxPointerOffset), "\x02\x00\x00\x00\x00\xff\xff\xff\xff\xff\x00\x00\x00\xff\xff\xff"},
		{system(1, 0, api.AuthExecute), "\x01\x00\x02\x00\x00\x00\x00\x00\x00\x01\x00\x00\x00\x00\x00\x00"},
	} {
		if e := tagged.CheckPointer(x.p); e != api.OK {
			t.Errorf("CheckPointer(%v): %v", x.p, e)
		}
		if s, e := tagged.PointerBytes(x.p); s != x.s || e != api.OK {
			t.Errorf("PointerBytes(%v): % x, %v", x.p, s, e)
		}
		if p, e := tagged.PointerIn(x.s); p != x.p || e != api.OK {
			t.Errorf("PointerIn(% x): %v, %v", x.s, p, e)
		}
	}
}

// P3.1: wrong pointers, the first error first. StorePointer has it, too (P3.4).
func TestPointerErrors(t *testing.T) {
	s, _ := tagged.NewStorage(1)
	for _, x := range []struct {
		p api.Pointer
		e api.Errno
	}{
		{api.Pointer{Kind: -1}, api.ErrKind}, {api.Pointer{Kind: api.PointerKinds}, api.ErrKind}, {api.Pointer{Kind: math.MaxInt, Authority: -1}, api.ErrKind}, {api.Pointer{Kind: math.MinInt, Address: api.Address{Segment: -1}}, api.ErrKind}, {api.Pointer{Kind: 256 + api.PointerSystem, Authority: 5}, api.ErrKind},
		{space(-1, 0), api.ErrRange}, {space(api.MaxPointerSegment+1, 0), api.ErrRange}, {space(math.MaxInt, 0), api.ErrRange}, {space(math.MinInt, 0), api.ErrRange},
		{procedure(0, -1), api.ErrRange}, {procedure(0, api.MaxPointerOffset+1), api.ErrRange}, {procedure(0, math.MaxInt), api.ErrRange}, {procedure(0, math.MinInt), api.ErrRange},
		{system(0, 0, -1), api.ErrRange}, {system(0, 0, api.AuthAll+1), api.ErrRange}, {system(-1, 0, 5), api.ErrRange}, {system(0, -1, 5), api.ErrRange},
		{api.Pointer{Kind: api.PointerSpace, Authority: -1}, api.ErrRange}, {api.Pointer{Kind: api.PointerProcedure, Authority: api.AuthAll + 1}, api.ErrRange}, {api.Pointer{Kind: api.PointerSpace, Address: api.Address{Segment: -1}, Authority: 1}, api.ErrRange},
		{api.Pointer{Kind: api.PointerSpace, Authority: 1}, api.ErrForm}, {api.Pointer{Kind: api.PointerProcedure, Authority: api.AuthAll}, api.ErrForm},
	} {
		if e := tagged.CheckPointer(x.p); e != x.e {
			t.Errorf("CheckPointer(%v): %v, not %v", x.p, e, x.e)
		}
		if s, e := tagged.PointerBytes(x.p); s != "" || e != x.e {
			t.Errorf("PointerBytes(%v): % x, %v, not %v", x.p, s, e, x.e)
		}
		if s, e := tagged.StorePointer(s, 0, x.p); !isNothing(s) || e != x.e {
			t.Errorf("StorePointer(%v): %v, %v, not %v", x.p, s, e, x.e)
		}
	}
}

// P3.1: bytes that are no pointers, the first error first.
func TestPointerInErrors(t *testing.T) {
	right := "\x01\x00\x00\x05\x00\x00\x00\x00\x01\x02\x00\x00\x00\x00\x00\x03"
	for _, x := range []struct {
		s string
		e api.Errno
	}{
		{"", api.ErrLength}, {right[:15], api.ErrLength}, {right + "\x00", api.ErrLength}, {"\x03\x01", api.ErrLength}, {strings.Repeat(right, 2), api.ErrLength},
		{"\x01\x01" + right[2:], api.ErrForm}, {"\x03\xff" + right[2:], api.ErrForm}, {"\x01\x80\xff" + right[3:], api.ErrForm},
		{"\x03" + right[1:], api.ErrKind}, {"\xff" + right[1:], api.ErrKind}, {"\x03\x00\xff" + right[3:], api.ErrKind},
		{"\x01\x00\x04\x00" + right[4:], api.ErrRange}, {"\x01\x00\xff\xff" + right[4:], api.ErrRange}, {"\x00\x00\x04\x00" + right[4:], api.ErrRange},
		{right[:4] + "\x01" + right[5:], api.ErrRange}, {right[:5] + "\x01" + right[6:], api.OK}, {right[:4] + "\xff\xff\xff\xff\xff\xff" + right[10:], api.ErrRange},
		{right[:10] + "\x01" + right[11:], api.ErrRange}, {right[:12] + "\x01" + right[13:], api.ErrRange}, {right[:13] + "\x01" + right[14:], api.OK}, {right[:10] + "\xff\xff\xff\xff\xff\xff", api.ErrRange},
		{"\x00" + right[1:], api.ErrForm}, {"\x02" + right[1:], api.ErrForm}, {"\x00\x00\x01\x00" + right[4:], api.ErrForm},
	} {
		if p, e := tagged.PointerIn(x.s); e != x.e || e != api.OK && p != (api.Pointer{}) {
			t.Errorf("PointerIn(% x): %v, %v, not %v", x.s, p, e, x.e)
		}
	}
}

// P3.1, P3.9: of all changes of one byte exactly those give other pointers whose bytes are those of a right one.
func TestChangedBytesOfPointers(t *testing.T) {
	for _, p := range []api.Pointer{space(258, 3), system(1<<40-2, 1<<24-3, 513), procedure(7, 0)} {
		s, _ := tagged.PointerBytes(p)
		for at := range len(s) {
			for c := range 256 {
				changed := s[:at] + string([]byte{byte(c)}) + s[at+1:]
				q, e := tagged.PointerIn(changed)
				back, f := tagged.PointerBytes(q)
				if e == api.OK && (back != changed || f != api.OK) {
					t.Errorf("PointerIn(% x): %v, whose bytes are % x, %v", changed, q, back, f)
				}
				if e != api.OK && (q != (api.Pointer{}) || rightBytes(changed)) {
					t.Errorf("PointerIn(% x): %v, %v", changed, q, e)
				}
			}
		}
	}
}

// rightBytes says by the definition whether 16 bytes are those of a pointer.
func rightBytes(s string) bool {
	return s[0] < 3 && s[1] == 0 && (s[2] < 4 && s[0] == 1 || s[2] == 0 && s[3] == 0) && s[4] == 0 && s[10:13] == "\x00\x00\x00"
}
