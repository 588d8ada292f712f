package emu

import (
	"strings"

	"beacon/api"
	"beacon/cursor"
	"beacon/edit"
	"beacon/mode"
	"beacon/print"
)

// A deed is what an event does to a screen: a call, an answer or a touch.
type deed any

type (
	// A call is a layer's below; where that refuses, nothing is done.
	call func(s api.Screen) (api.Screen, api.Errno)
	// An answer is said of the screen, which stays.
	answer func(s *api.Screen) string
	// A touch writes into the screen.
	touch func(s *api.Screen)
)

// do does v, which may be, to s, and tells the bytes that are answered.
func do(s *api.Screen, v api.Event) string {
	d := deedOf(v)
	if f, ok := d.(call); ok {
		if x, e := f(*s); e == api.OK {
			*s = x
		}
		return ""
	}
	if f, ok := d.(answer); ok {
		return f(s)
	}
	d.(touch)(s)
	return ""
}

// deedOf tells what v does.
func deedOf(v api.Event) deed {
	switch v.Kind {
	case api.EvPrint:
		return printed(v.Rune)
	case api.EvControl:
		return control(v.Rune)
	case api.EvEscape:
		return escape(name(v))
	case api.EvCsi:
		return csi(name(v), v.Params)
	}
	return osc(v.Text)
}

// name is what an escape, or a csi, goes by: what stands between, and the last byte.
func name(v api.Event) string {
	return v.Inter + string(rune(v.Rune))
}

func nothing() deed {
	return touch(func(*api.Screen) {})
}

// printed is what a rune does; print refuses one that has no width.
func printed(r int) deed {
	return call(func(s api.Screen) (api.Screen, api.Errno) { return print.Rune(s, r) })
}

func control(b int) deed {
	switch b {
	case '\b':
		return touch(stepBack)
	case '\t':
		return moved('I', 1, 1)
	case '\n', '\v', '\f':
		return touch(lineFeed)
	case '\r':
		return touch(func(s *api.Screen) { s.Cur.Col, s.Cur.Wrap = 0, false })
	case 14:
		return touch(func(s *api.Screen) { s.Cur.Shift = 1 })
	case 15:
		return touch(func(s *api.Screen) { s.Cur.Shift = 0 })
	}
	return nothing()
}

func escape(name string) deed {
	switch name {
	case "7":
		return call(cursor.Save)
	case "8":
		return call(cursor.Restore)
	case "D":
		return call(print.Down)
	case "M":
		return call(print.Back)
	case "E":
		return touch(nextLine)
	case "H":
		return touch(func(s *api.Screen) { s.Tabs[s.Cur.Col] = true })
	case "c":
		return call(mode.Hard)
	case "=":
		return touch(func(s *api.Screen) { s.Modes |= api.ModePad })
	case ">":
		return touch(func(s *api.Screen) { s.Modes &^= api.ModePad })
	case "(0":
		return touch(func(s *api.Screen) { s.Cur.G0 = api.SetLines })
	case "(B":
		return touch(func(s *api.Screen) { s.Cur.G0 = api.SetPlain })
	case ")0":
		return touch(func(s *api.Screen) { s.Cur.G1 = api.SetLines })
	case ")B":
		return touch(func(s *api.Screen) { s.Cur.G1 = api.SetPlain })
	case "#8":
		return call(mode.Align)
	}
	return nothing()
}

// moved is what one of cursor's keys does.
func moved(key, n, m int) deed {
	return call(func(s api.Screen) (api.Screen, api.Errno) { return cursor.Move(s, key, n, m) })
}

// edited is what one of edit's keys does.
func edited(key, n int) deed {
	return call(func(s api.Screen) (api.Screen, api.Errno) { return edit.Do(s, key, n) })
}

// osc is what a text does: it says what the title is, if one of these is ahead.
func osc(text string) deed {
	for _, r := range "02" {
		if t, ok := strings.CutPrefix(text, string(r)+";"); ok {
			return touch(func(s *api.Screen) { s.Title = cleaned(t) })
		}
	}
	return nothing()
}

// cleaned is t without the bytes that are no rune's, and without controls.
func cleaned(t string) string {
	var b strings.Builder
	for _, r := range strings.ToValidUTF8(t, "") {
		if r >= ' ' && !in(int(r), 0x7f, 0x9f) {
			b.WriteRune(r)
		}
	}
	return b.String()
}
