package emu

import (
	"unicode"

	"beacon/api"
)

// maxInter is how many bytes stand between at most.
const maxInter = 3

// isEvent tells whether v is an event that may be.
func isEvent(v api.Event) bool {
	switch v.Kind {
	case api.EvPrint:
		return in(v.Rune, ' ', unicode.MaxRune) && v.Inter == "" && len(v.Params) == 0 && v.Text == ""
	case api.EvControl:
		return in(v.Rune, 0, ' '-1) && v.Inter == "" && len(v.Params) == 0 && v.Text == ""
	case api.EvEscape:
		return isLast(v.Rune) && isInter(v.Inter) && len(v.Params) == 0 && v.Text == ""
	case api.EvCsi:
		return isLast(v.Rune) && isInter(v.Inter) && areParams(v.Params) && v.Text == ""
	case api.EvOsc:
		return v.Rune == 0 && v.Inter == "" && len(v.Params) == 0 && len(v.Text) <= api.MaxString
	}
	return false
}

// isLast tells whether b may be the last byte of an escape or a csi.
func isLast(b int) bool {
	return in(b, '0', '~')
}

// isInter tells whether s may stand between.
func isInter(s string) bool {
	// Of bytes from 0x80 on no rune is below that.
	for _, r := range s {
		if !in(int(r), ' ', '?') {
			return false
		}
	}
	return len(s) <= maxInter
}

// areParams tells whether l may be a csi's numbers.
func areParams(l []int) bool {
	for _, n := range l {
		if !in(n, -1, api.MaxValue) {
			return false
		}
	}
	return len(l) <= api.MaxParams
}

// in tells whether n is from low to high.
func in(n, low, high int) bool {
	return low <= n && n <= high
}
