package edit

import "beacon/api"

// keys are all that Do knows.
const keys = "JKXP@LMST"

// isKey tells whether key is one of keys.
func isKey(key int) bool {
	for _, r := range keys {
		if int(r) == key {
			return true
		}
	}
	return false
}

// A deed is what a key does to the grid that is seen: a wipe, a shift, lines or a scroll.
type deed any

// A wipe makes blanks of the cells from low to below high, which are counted through all rows.
type wipe struct{ low, high int }

type (
	shift  int // so many cells come (or, below 0, go) where the cursor is
	lines  int // so many rows come (or go) where the cursor is
	scroll int // so many rows come (or go) at the margin
)

// deedOf tells what key does to s by n.
func deedOf(s api.Screen, key, n int) deed {
	cols := s.Main.Cols
	begin := s.Cur.Row * cols
	at, count := begin+s.Cur.Col, max(n, 1)
	switch key {
	case 'J':
		return wiped(at, 0, s.Main.Rows*cols, n)
	case 'K':
		return wiped(at, begin, begin+cols, n)
	case 'X':
		return wipe{at, min(at+count, begin+cols)}
	case 'P':
		return shift(-count)
	case '@':
		return shift(count)
	case 'L':
		return lines(count)
	case 'M':
		return lines(-count)
	case 'S':
		return scroll(-count)
	}
	return scroll(count)
}

// wiped tells which cells of those from first to below end, of which at is one, n means.
func wiped(at, first, end, n int) wipe {
	switch n {
	case -1, 0:
		return wipe{at, end}
	case 1:
		return wipe{first, at + 1}
	case 2:
		return wipe{first, end}
	}
	return wipe{}
}
