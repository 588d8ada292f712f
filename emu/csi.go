package emu

import (
	"strconv"

	"beacon/api"
	"beacon/cursor"
	"beacon/mode"
	"beacon/print"
	"beacon/sgr"
)

const (
	moves = "ABCDEFGdHIZ" // the keys of cursor
	edits = "JKXP@LMST"   // and those of edit
	// twins are keys that do what another one does: that one stands behind each.
	twins = "fHeBaC`G"
)

// maxRepeats is how often a rune is printed once more at most.
const maxRepeats = 500

// csi is what one does that goes by name, with the numbers l.
func csi(name string, l []int) deed {
	p, q := number(l, 0), number(l, 1)
	switch name {
	case "m":
		return touch(func(s *api.Screen) { s.Cur.Attr, _ = sgr.Apply(s.Cur.Attr, l) })
	case "r":
		return call(func(s api.Screen) (api.Screen, api.Errno) { return mode.Margins(s, p, q) })
	case "h", "l":
		return modes(false, l, name == "h")
	case "?h", "?l":
		return modes(true, l, name == "?h")
	case "s":
		return call(cursor.Save)
	case "u":
		return call(cursor.Restore)
	case "g":
		return unstopped(p)
	case "b":
		return touch(func(s *api.Screen) { repeat(s, p) })
	case "n":
		return report(p)
	case "c":
		return known("\x1b[?62;22c", p)
	case ">c":
		return known("\x1b[>1;10;0c", p)
	case "?J":
		return edited('J', p)
	case "?K":
		return edited('K', p)
	case "!p":
		return call(mode.Soft)
	}
	return keyed(name, p, q)
}

// number is the i-th of l, or -1, if there is none.
func number(l []int, i int) int {
	if i < len(l) {
		return l[i]
	}
	return -1
}

// keyed is what a key of a layer below does by p and q, if name is one.
func keyed(name string, p, q int) deed {
	if len(name) > 1 {
		return nothing()
	}
	key := meant(int(name[0]))
	if has(moves, key) {
		return moved(key, p, q)
	}
	if has(edits, key) {
		return edited(key, p)
	}
	return nothing()
}

// meant is the key that does what key does.
func meant(key int) int {
	for i, r := range twins {
		if i%2 == 0 && int(r) == key {
			return int(twins[i+1])
		}
	}
	return key
}

// has tells whether key is one of keys.
func has(keys string, key int) bool {
	for _, r := range keys {
		if int(r) == key {
			return true
		}
	}
	return false
}

// modes makes what l names on, or off.
func modes(private bool, l []int, on bool) deed {
	return touch(func(s *api.Screen) {
		for _, n := range l {
			*s, _ = mode.Set(*s, private, n, on)
		}
	})
}

// unstopped takes away the stop at the cursor, or all of them.
func unstopped(p int) deed {
	switch p {
	case -1, 0:
		return touch(func(s *api.Screen) { s.Tabs[s.Cur.Col] = false })
	case 3:
		return touch(func(s *api.Screen) { clear(s.Tabs) })
	}
	return nothing()
}

// report says how it is, or where the cursor is.
func report(p int) deed {
	switch p {
	case 5:
		return answer(func(*api.Screen) string { return "\x1b[0n" })
	case 6:
		return answer(place)
	}
	return nothing()
}

// known says what terminal it is.
func known(as string, p int) deed {
	if p > 0 {
		return nothing()
	}
	return answer(func(*api.Screen) string { return as })
}

// place says where the cursor is.
func place(s *api.Screen) string {
	row := s.Cur.Row + 1
	if s.Cur.Origin {
		row -= s.Top
	}
	return "\x1b[" + strconv.Itoa(row) + ";" + strconv.Itoa(s.Cur.Col+1) + "R"
}

// All below are of a screen that may be, in memory that is nobody else's: so the layers below refuse nothing that they are asked for.

// repeat prints the last rune once more, p times.
func repeat(s *api.Screen, p int) {
	if s.Last == 0 {
		return
	}
	for range min(max(p, 1), maxRepeats) {
		*s, _ = print.Rune(*s, s.Last)
	}
}

// stepBack makes the cursor go a column back, where it does not wait at the last one.
func stepBack(s *api.Screen) {
	if !s.Cur.Wrap {
		s.Cur.Col = max(s.Cur.Col-1, 0)
	}
	s.Cur.Wrap = false
}

// nextLine makes the cursor go to the begin of the row below.
func nextLine(s *api.Screen) {
	*s, _ = print.Down(*s)
	s.Cur.Col = 0
}

// lineFeed makes the cursor go a row down, and to its begin, if that is the mode.
func lineFeed(s *api.Screen) {
	if s.Modes&api.ModeNewline != 0 {
		nextLine(s)
		return
	}
	*s, _ = print.Down(*s)
}
