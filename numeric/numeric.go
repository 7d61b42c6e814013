// Package numeric is chapter 1: packed, zoned, binary and character numbers. See shared/doc/01-numeric.md.
package numeric

import (
	"strings"

	"midrange/api"
)

// CheckType accepts right data types.
func CheckType(t api.DataType) api.Errno {
	if t.Kind < 0 || t.Kind >= api.DataKinds {
		return api.ErrKind
	}
	if !rightLength(t) {
		return api.ErrLength
	}
	if t.Scale < 0 || t.Scale > greatestScale(t) {
		return api.ErrRange
	}
	return api.OK
}

func rightLength(t api.DataType) bool {
	switch t.Kind {
	case api.DataChar:
		return t.Length >= 1 && t.Length <= api.MaxString
	case api.DataBinary:
		return t.Length == 4 || t.Length == 9
	case api.DataPointer:
		return t.Length == 0
	}
	return t.Length >= 1 && t.Length <= api.MaxDigits
}

func greatestScale(t api.DataType) int {
	if isNumeric(t) {
		return t.Length
	}
	return 0
}

func isNumeric(t api.DataType) bool {
	return t.Kind == api.DataPacked || t.Kind == api.DataZoned || t.Kind == api.DataBinary
}

// SizeOf returns how many bytes the values of a type have.
func SizeOf(t api.DataType) (int, api.Errno) {
	if e := CheckType(t); e != api.OK {
		return 0, e
	}
	return sizeOf(t), api.OK
}

func sizeOf(t api.DataType) int {
	switch t.Kind {
	case api.DataPacked:
		return t.Length/2 + 1
	case api.DataBinary:
		if t.Length == 4 {
			return 2
		}
		return 4
	case api.DataPointer:
		return api.QuadWord
	}
	return t.Length
}

// CheckValue accepts right values of a type.
func CheckValue(t api.DataType, v api.Value) api.Errno {
	if e := checkValued(t); e != api.OK {
		return e
	}
	if t.Kind == api.DataChar {
		return checkString(t, v)
	}
	if v.S != "" {
		return api.ErrForm
	}
	if !fits(v.N, t) {
		return api.ErrOverflow
	}
	return api.OK
}

// checkValued accepts the types that have values.
func checkValued(t api.DataType) api.Errno {
	return firstError(CheckType(t), errorIf(t.Kind == api.DataPointer, api.ErrType))
}

func checkString(t api.DataType, v api.Value) api.Errno {
	return firstError(errorIf(v.N != 0, api.ErrForm), errorIf(len(v.S) != t.Length, api.ErrLength))
}

func fits(n int, t api.DataType) bool {
	most := greatest(t)
	return n >= -most && n <= most
}

// greatest is the greatest N of a numeric type.
func greatest(t api.DataType) int {
	return powerOfTen(t.Length) - 1
}

func powerOfTen(n int) int {
	power := 1
	for range n {
		power *= 10
	}
	return power
}

// LeastOf returns the least value of a type.
func LeastOf(t api.DataType) (api.Value, api.Errno) {
	if e := checkValued(t); e != api.OK {
		return api.Value{}, e
	}
	if t.Kind == api.DataChar {
		return api.Value{S: strings.Repeat("\x00", t.Length)}, api.OK
	}
	return api.Value{N: -greatest(t)}, api.OK
}

// GreatestOf returns the greatest value of a type.
func GreatestOf(t api.DataType) (api.Value, api.Errno) {
	if e := checkValued(t); e != api.OK {
		return api.Value{}, e
	}
	if t.Kind == api.DataChar {
		return api.Value{S: strings.Repeat("\xff", t.Length)}, api.OK
	}
	return api.Value{N: greatest(t)}, api.OK
}

// firstError returns the first one of several errors that is not OK; OK, if there is none.
func firstError(list ...api.Errno) api.Errno {
	for _, e := range list {
		if e != api.OK {
			return e
		}
	}
	return api.OK
}

func errorIf(wrong bool, e api.Errno) api.Errno {
	if wrong {
		return e
	}
	return api.OK
}
