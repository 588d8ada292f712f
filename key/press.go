package key

import (
	"strconv"
	"unicode/utf8"

	"beacon/api"
)

// What keys send, in the order of their kinds.
const (
	letters = "ABCDHF"       // the last bytes of KeyUp to KeyEnd
	singles = "\r\t\x7f\x1b" // the bytes of KeyEnter to KeyEscape
	digits  = "01"           // the digits that tell KeyPaste's begin from its end
)

// escape begins what a terminal takes for more than runes.
const escape = "\x1b"

// allMods are all mods together.
const allMods = api.ModCtrl<<1 - 1

// A press is what a key is, its mods aside: a sign, an arrow, a single or a bracket; a none, if it may not be.
type press any

type (
	// A sign is a rune's key.
	sign rune
	// An arrow moves the cursor: the letter at its end.
	arrow rune
	// A single sends just one byte, if nothing else is asked of it.
	single rune
	// A bracket begins or ends a paste: its digit.
	bracket rune
	// A none is no key.
	none struct{}
)

// read tells what k is.
func read(k api.Key) press {
	if !in(k.Mods, 0, allMods) {
		return none{}
	}
	switch k.Kind {
	case api.KeyRune:
		return signOf(k.Rune)
	case api.KeyPaste:
		return bracketOf(k.Rune)
	}
	if k.Rune != 0 {
		return none{}
	}
	return namedOf(k.Kind)
}

// signOf tells what a KeyRune of r is.
func signOf(r int) press {
	if !in(r, ' ', utf8.MaxRune) || r == 0x7f || in(r, 0xd800, 0xdfff) {
		return none{}
	}
	return sign(r)
}

// bracketOf tells what a KeyPaste of r is.
func bracketOf(r int) press {
	if d, ok := at(digits, r-1); ok {
		return bracket(d)
	}
	return none{}
}

// namedOf tells what a key is whose kind says all.
func namedOf(kind int) press {
	if r, ok := at(letters, kind-api.KeyUp); ok {
		return arrow(r)
	}
	if r, ok := at(singles, kind-api.KeyEnter); ok {
		return single(r)
	}
	return none{}
}

// at tells the rune at place n of text, if there is one.
func at(text string, n int) (rune, bool) {
	for i, r := range text {
		if i == n {
			return r, true
		}
	}
	return 0, false
}

// sent tells what p, which is no none, sends with mods by modes.
func sent(p press, mods, modes int) string {
	if a, ok := p.(arrow); ok {
		return moving(a, mods, modes)
	}
	if b, ok := p.(bracket); ok {
		return pasting(b, modes)
	}
	if s, ok := p.(sign); ok {
		return ahead(mods) + string(typed(rune(s), mods))
	}
	return alone(p.(single), mods, modes)
}

// moving is what a sends.
func moving(a arrow, mods, modes int) string {
	switch {
	case mods != 0:
		return escape + "[1;" + strconv.Itoa(mods+1) + string(a)
	case modes&api.ModeArrows != 0:
		return escape + "O" + string(a)
	}
	return escape + "[" + string(a)
}

// pasting is what b sends.
func pasting(b bracket, modes int) string {
	if modes&api.ModePaste == 0 {
		return ""
	}
	return escape + "[20" + string(b) + "~"
}

// typed is the rune that r becomes.
func typed(r rune, mods int) rune {
	if mods&api.ModCtrl != 0 && ('@' <= r && r <= '_' || 'a' <= r && r <= 'z') {
		return r & 0x1f
	}
	return r
}

// alone is what x sends.
func alone(x single, mods, modes int) string {
	switch {
	case x == '\t' && mods&api.ModShift != 0:
		return escape + "[Z"
	case x == '\r' && modes&api.ModeNewline != 0:
		return ahead(mods) + "\r\n"
	}
	return ahead(mods) + string(x)
}

// ahead is what stands ahead of what is sent with mods.
func ahead(mods int) string {
	if mods&api.ModAlt != 0 {
		return escape
	}
	return ""
}
