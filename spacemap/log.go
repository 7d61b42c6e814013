package spacemap

import (
	"strings"

	"midrange/api"
)

// fieldSizes are how many bytes the fields of an entry have: its kind, the five of its extent, and its number. Behind them is the checksum.
var fieldSizes = [7]int{1, 2, 1, 1, 1, 2, 4}

const checksumSize = 4

// checksumModulus is the greatest prime below 2 to the power of 32; so no change of a single byte keeps the checksum.
const checksumModulus = 4294967291

func checksum(bytes []byte) int {
	c := 1
	for _, b := range bytes {
		c = (257*c + int(b) + 1) % checksumModulus
	}
	return c
}

// bytesOf returns the bytes of an entry that has a number in the log.
func bytesOf(y api.MapEntry, number int) string {
	x := y.Extent
	fields := [7]int{y.Kind, x.Segment, x.Page, x.Count, x.Unit, x.At, number}
	var bytes []byte
	for i, n := range fields {
		bytes = appendNumber(bytes, n, fieldSizes[i])
	}
	return string(appendNumber(bytes, checksum(bytes), checksumSize))
}

// appendNumber appends a number as so many bytes, the highest one first.
func appendNumber(bytes []byte, n, size int) []byte {
	for i := size - 1; i >= 0; i-- {
		bytes = append(bytes, byte(n>>(8*i)))
	}
	return bytes
}

// entryIn returns the kind and the extent that the bytes of an entry say, right or not.
func entryIn(bytes string) api.MapEntry {
	var fields [7]int
	for i, size := range fieldSizes {
		for _, b := range []byte(bytes[:size]) {
			fields[i] = fields[i]<<8 | int(b)
		}
		bytes = bytes[size:]
	}
	x := api.MapExtent{Segment: fields[1], Page: fields[2], Count: fields[3], Unit: fields[4], At: fields[5]}
	return api.MapEntry{Kind: fields[0], Extent: x}
}

func checkEntry(y api.MapEntry) api.Errno {
	switch y.Kind {
	case api.MapAdd, api.MapTake:
		if !isLogged(y.Extent) {
			return api.ErrRange
		}
	case api.MapCommit:
		if y.Extent != (api.MapExtent{}) {
			return api.ErrForm
		}
	default:
		return api.ErrKind
	}
	return api.OK
}

// isLogged says whether an extent may be that of an entry. The log does not know the units of its map: they are as many and as large as those of any.
func isLogged(x api.MapExtent) bool {
	var units [api.MaxMapUnits]int
	for i := range units {
		units[i] = api.MaxUnitPages
	}
	return arePages(x) && areOn(units[:], x)
}

// LogOf returns the bytes of entries.
func LogOf(l []api.MapEntry) (string, api.Errno) {
	if len(l) > api.MaxMapEntries {
		return "", api.ErrLarge
	}
	var log strings.Builder
	for i, y := range l {
		if e := checkEntry(y); e != api.OK {
			return "", e
		}
		log.WriteString(bytesOf(y, i))
	}
	return log.String(), api.OK
}

// EntriesIn returns the whole entries of a log, and how many of them belong to groups.
func EntriesIn(log string) ([]api.MapEntry, int, api.Errno) {
	if len(log) > api.MaxMapEntries*api.MapEntrySize {
		return nil, 0, api.ErrLarge
	}
	var l []api.MapEntry
	grouped := 0
	for ; len(log) >= api.MapEntrySize; log = log[api.MapEntrySize:] {
		y, ok := wholeEntry(log[:api.MapEntrySize], len(l))
		if !ok {
			break
		}
		l = append(l, y)
		if y.Kind == api.MapCommit {
			grouped = len(l)
		}
	}
	return l, grouped, api.OK
}

// wholeEntry returns an entry, and whether it is whole: what its bytes say is right, and just these bytes say it at this place.
func wholeEntry(bytes string, number int) (api.MapEntry, bool) {
	y := entryIn(bytes)
	return y, checkEntry(y) == api.OK && bytesOf(y, number) == bytes
}
