package cursor

import (
	"beacon/api"
	"beacon/tabs"
)

// plainKeys are the keys that lead within a row, or within a column, alone.
const plainKeys = "ABCDGdIZ"

// A step is a plain key and its number.
type step struct {
	key rune
	n   int
}

// stepsOf tells what key comes to, or nothing if there is no such key.
func stepsOf(key, n, m int) []step {
	switch key {
	case 'E':
		return []step{{'B', n}, {'G', 1}}
	case 'F':
		return []step{{'A', n}, {'G', 1}}
	case 'H':
		return []step{{'d', n}, {'G', m}}
	}
	for _, r := range plainKeys {
		if int(r) == key {
			return []step{{r, n}}
		}
	}
	return nil
}

// A goal is where a step leads: to a line or a column.
type goal any

type (
	line   int
	column int
)

// take makes the cursor of s go a step.
func take(s *api.Screen, x step) {
	g := goalOf(*s, x.key, max(x.n, 1))
	if l, ok := g.(line); ok {
		s.Cur.Row = int(l)
		return
	}
	s.Cur.Col = int(g.(column))
}

// goalOf tells where a plain key leads the cursor of s by n, which is at least 1.
func goalOf(s api.Screen, key rune, n int) goal {
	at, last := s.Cur.Col, s.Main.Cols-1
	switch key {
	case 'A':
		return up(s, n)
	case 'B':
		return down(s, n)
	case 'C':
		return column(min(at+n, last))
	case 'D':
		return column(max(at-n, 0))
	case 'G':
		return column(min(n-1, last))
	case 'd':
		return numbered(s, n)
	case 'I':
		at, _ = tabs.Next(s.Tabs, at, n)
	case 'Z':
		at, _ = tabs.Back(s.Tabs, at, n)
	}
	return column(at)
}

// up is the line n above the cursor's; the margin holds what does not stand beyond it.
func up(s api.Screen, n int) line {
	first := 0
	if s.Cur.Row >= s.Top {
		first = s.Top
	}
	return line(max(s.Cur.Row-n, first))
}

// down is the line n below the cursor's, likewise.
func down(s api.Screen, n int) line {
	last := s.Main.Rows - 1
	if s.Cur.Row <= s.Bottom {
		last = s.Bottom
	}
	return line(min(s.Cur.Row+n, last))
}

// numbered is the n-th line, of the margins if the cursor counts from there.
func numbered(s api.Screen, n int) line {
	if s.Cur.Origin {
		return line(min(s.Top+n-1, s.Bottom))
	}
	return line(min(n-1, s.Main.Rows-1))
}
