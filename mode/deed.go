package mode

import (
	"beacon/api"
	"beacon/cursor"
	"beacon/edit"
)

// numbers are those of the flags, in the order of their bits: ? is ahead of a private one, and ; behind each.
const numbers = "?7;4;20;?25;?1;?66;?5;?2004;?1000;?1004;"

// A deed is what a number stands for: a flag, an origin or a swap.
type deed any

type (
	// A flag is a mode's bit; of a number that stands for nothing it is 0.
	flag int
	// An origin is where the cursor counts its rows from.
	origin struct{}
	// A swap makes the other grid seen. Some keep the cursor meanwhile, and some show the grid blank.
	swap struct{ keeps, blanks bool }
)

// deedOf tells what n stands for.
func deedOf(private bool, n int) deed {
	if private {
		switch n {
		case 6:
			return origin{}
		case 47:
			return swap{}
		case 1047:
			return swap{blanks: true}
		case 1049:
			return swap{keeps: true, blanks: true}
		}
	}
	return flagOf(private, n)
}

// flagOf tells the flag whose number is n.
func flagOf(private bool, n int) flag {
	bit, told, sign := 1, 0, false
	for _, r := range numbers {
		switch r {
		case '?':
			sign = true
		case ';':
			if told == n && sign == private {
				return flag(bit)
			}
			bit, told, sign = bit<<1, 0, false
		default:
			told = 10*told + int(r-'0')
		}
	}
	return 0
}

// All below are of a screen that may be, in memory that is nobody else's: so the layers below refuse nothing that they are asked for.

// do makes s as d says that it is on, or off.
func do(s *api.Screen, d deed, on bool) {
	if _, ok := d.(origin); ok {
		s.Cur.Origin = on
		*s, _ = cursor.Home(*s)
		return
	}
	if x, ok := d.(swap); ok {
		turn(s, x, on)
		return
	}
	put(s, int(d.(flag)), on)
}

// put makes a mode on, or off.
func put(s *api.Screen, bit int, on bool) {
	if on {
		s.Modes |= bit
		return
	}
	s.Modes &^= bit
	if bit == api.ModeWrap {
		s.Cur.Wrap = false
	}
}

// turn makes the other grid seen, or the main one.
func turn(s *api.Screen, x swap, on bool) {
	was := s.Swapped
	if x.keeps && on {
		*s, _ = cursor.Save(*s)
	}
	s.Swapped = on
	if x.blanks && on && !was {
		blank(s)
	}
	if x.keeps && !on && was {
		*s, _ = cursor.Restore(*s)
	}
}

// blank makes the seen grid plain blanks; the cursor stays as it is.
func blank(s *api.Screen) {
	c := s.Cur
	s.Cur.Attr = plain()
	*s, _ = edit.Do(*s, 'J', 2)
	s.Cur = c
}
