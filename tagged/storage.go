package tagged

import (
	"slices"
	"strings"

	"midrange/api"
)

// CheckStorage returns the number of quadwords. Beside ErrPointer it is the index of the quadword that is wrong.
func CheckStorage(s api.Storage) (int, api.Errno) {
	if len(s.Bytes) > api.MaxQuads*api.QuadWord {
		return 0, api.ErrLarge
	}
	if len(s.Bytes)%api.QuadWord != 0 {
		return 0, api.ErrLength
	}
	if len(s.Tags) != len(s.Bytes)/api.QuadWord {
		return 0, api.ErrShape
	}
	for i, tag := range s.Tags {
		if tag && !isPointer(quadAt(s, i)) {
			return i, api.ErrPointer
		}
	}
	return len(s.Tags), api.OK
}

// quadAt returns the bytes of the quadword with an index.
func quadAt(s api.Storage, i int) string {
	return s.Bytes[i*api.QuadWord : (i+1)*api.QuadWord]
}

// errorOf is the error of a storage, without an index.
func errorOf(s api.Storage) api.Errno {
	_, e := CheckStorage(s)
	return e
}

// NewStorage returns a storage of zero bytes.
func NewStorage(quads int) (api.Storage, api.Errno) {
	if !isIn(quads, api.MaxQuads) {
		return api.Storage{}, api.ErrRange
	}
	return api.Storage{Bytes: strings.Repeat("\x00", quads*api.QuadWord), Tags: make([]bool, quads)}, api.OK
}

// checkBytes returns the error of a storage, or ErrRange if so many bytes from an offset on are not in it.
func checkBytes(s api.Storage, at, n int) api.Errno {
	if e := errorOf(s); e != api.OK {
		return e
	}
	if !holds(s, at, n) {
		return api.ErrRange
	}
	return api.OK
}

func holds(s api.Storage, at, n int) bool {
	return at >= 0 && n >= 0 && at <= len(s.Bytes)-n
}

// ReadBytes returns bytes of a storage.
func ReadBytes(s api.Storage, at, n int) (string, api.Errno) {
	if e := checkBytes(s, at, n); e != api.OK {
		return "", e
	}
	return s.Bytes[at : at+n], api.OK
}

// WriteBytes returns the storage after bytes were written, which takes tags away.
func WriteBytes(s api.Storage, at int, data string) (api.Storage, api.Errno) {
	if e := checkBytes(s, at, len(data)); e != api.OK {
		return api.Storage{}, e
	}
	return written(s, at, data), api.OK
}

// written returns a storage of its own memory with data that it holds.
func written(s api.Storage, at int, data string) api.Storage {
	tags := slices.Clone(s.Tags)
	for i := range len(data) {
		tags[(at+i)/api.QuadWord] = false
	}
	return api.Storage{Bytes: s.Bytes[:at] + data + s.Bytes[at+len(data):], Tags: tags}
}

// checkQuad returns the error of a storage, or ErrRange if an offset is not that of one of its quadwords.
func checkQuad(s api.Storage, at int) api.Errno {
	if e := checkBytes(s, at, api.QuadWord); e != api.OK {
		return e
	}
	if at%api.QuadWord != 0 {
		return api.ErrRange
	}
	return api.OK
}

// LoadPointer returns the pointer in a quadword.
func LoadPointer(s api.Storage, at int) (api.Pointer, api.Errno) {
	if e := checkQuad(s, at); e != api.OK {
		return api.Pointer{}, e
	}
	if !s.Tags[at/api.QuadWord] {
		return api.Pointer{}, api.ErrPointer
	}
	return PointerIn(quadAt(s, at/api.QuadWord))
}

// StorePointer returns the storage after a pointer was stored in a quadword.
func StorePointer(s api.Storage, at int, p api.Pointer) (api.Storage, api.Errno) {
	if e := checkQuad(s, at); e != api.OK {
		return api.Storage{}, e
	}
	if e := CheckPointer(p); e != api.OK {
		return api.Storage{}, e
	}
	out := written(s, at, bytesOf(p))
	out.Tags[at/api.QuadWord] = true
	return out, api.OK
}

func checkCopy(s api.Storage, r api.CopyRange) api.Errno {
	if e := errorOf(s); e != api.OK {
		return e
	}
	if !holds(s, r.From, r.Length) || !holds(s, r.To, r.Length) {
		return api.ErrRange
	}
	return api.OK
}

// CopyBytes returns the storage after a copy of bytes, without their tags.
func CopyBytes(s api.Storage, r api.CopyRange) (api.Storage, api.Errno) {
	if e := checkCopy(s, r); e != api.OK {
		return api.Storage{}, e
	}
	return copied(s, r), api.OK
}

func copied(s api.Storage, r api.CopyRange) api.Storage {
	return written(s, r.To, s.Bytes[r.From:r.From+r.Length])
}

// CopyWithTags returns the storage after a copy of bytes, with the tags of whole quadwords.
func CopyWithTags(s api.Storage, r api.CopyRange) (api.Storage, api.Errno) {
	if e := checkCopy(s, r); e != api.OK {
		return api.Storage{}, e
	}
	if r.From%api.QuadWord != r.To%api.QuadWord {
		return api.Storage{}, api.ErrClash
	}
	out := copied(s, r)
	first := (r.To + api.QuadWord - 1) / api.QuadWord // before it the target has a part of a quadword at most
	end := (r.To + r.Length) / api.QuadWord
	back := (r.From - r.To) / api.QuadWord
	for i := first; i < end; i++ {
		out.Tags[i] = s.Tags[i+back]
	}
	return out, api.OK
}

// FindBytes returns the lowest offset from an offset on at which a pattern stands.
func FindBytes(s api.Storage, at int, pattern string) (int, api.Errno) {
	if e := checkBytes(s, at, 0); e != api.OK {
		return 0, e
	}
	if pattern == "" {
		return 0, api.ErrEmpty
	}
	behind := strings.Index(s.Bytes[at:], pattern)
	if behind < 0 {
		return 0, api.ErrNone
	}
	return at + behind, api.OK
}

// PointersIn returns the offsets of the quadwords with a tag.
func PointersIn(s api.Storage) ([]int, api.Errno) {
	if e := errorOf(s); e != api.OK {
		return nil, e
	}
	var offsets []int
	for i, tag := range s.Tags {
		if tag {
			offsets = append(offsets, i*api.QuadWord)
		}
	}
	return offsets, api.OK
}
