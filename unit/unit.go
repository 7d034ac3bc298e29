// Package unit is layer 1: bytes as units, which are characters, and bytes that are none. See shared/doc/01-unit.md.
package unit

import (
	"iter"
	"unicode/utf8"

	"colander/api"
)

// strayBase lies right behind the last character, so that no stray is one.
const strayBase = utf8.MaxRune + 1

// Next is the unit that begins at the byte at, and how many bytes it takes; 0 and 0, if there is no such byte.
func Next(b []byte, at int) (unit int, size int) {
	if at < 0 || at >= len(b) {
		return 0, 0
	}
	r, size := utf8.DecodeRune(b[at:])
	// The character fffd is told by the same rune as an error, but takes three bytes.
	if r == utf8.RuneError && size == 1 {
		return strayBase + int(b[at]), 1
	}
	return int(r), size
}

// all goes through the units of bytes, from the first byte on.
func all(b []byte) iter.Seq[int] {
	return func(yield func(int) bool) {
		for at := 0; at < len(b); {
			u, size := Next(b, at)
			if !yield(u) {
				return
			}
			at += size
		}
	}
}

// Split is the units of bytes.
func Split(b []byte) []int {
	var units []int
	for u := range all(b) {
		units = append(units, u)
	}
	return units
}

// character is a unit as a rune, and whether it is a character.
func character(unit int) (rune, bool) {
	// A rune has 32 bits: a number beyond them would come out as another one.
	if unit < 0 || unit > utf8.MaxRune {
		return 0, false
	}
	r := rune(unit)
	return r, utf8.ValidRune(r)
}

// Stray tells whether a number is a stray, and right.
func Stray(unit int) bool {
	// A byte below 80 is a character by itself, and so never a stray.
	return unit >= strayBase+utf8.RuneSelf && unit <= api.MaxUnit
}

// Right tells whether a number is a character, or a right stray.
func Right(unit int) bool {
	_, ok := character(unit)
	return ok || Stray(unit)
}

// Join is the bytes of units, one behind the other; ErrForm, if one of them isn't right.
func Join(units []int) ([]byte, api.Errno) {
	var b []byte
	for _, u := range units {
		r, ok := character(u)
		switch {
		case ok:
			b = utf8.AppendRune(b, r)
		case Stray(u):
			b = append(b, byte(u-strayBase))
		default:
			return nil, api.ErrForm
		}
	}
	return b, api.OK
}
