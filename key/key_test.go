package key_test

import (
	"math"
	"slices"
	"strconv"
	"strings"
	"testing"

	"beacon/api"
	"beacon/key"
)

const allModes = 1023

func k(kind, r, mods int) api.Key { return api.Key{Kind: kind, Rune: r, Mods: mods} }

// runes are the ones at all edges that the chapter names, and some between.
var runes = []int{32, 33, '0', '1', '?', '@', 'A', 'M', 'Z', '[', '\\', ']', '^', '_', '`', 'a', 'm', 'z', '{', '~', 128, 0x85, 0xe9, 0x7ff, 0x800, 0x1041, 0x4e16, 0xd7ff, 0xe000, 0xfffd, 0xfffe, 0xffff, 0x10000, 0x10041, 0x10ffff}

// keys are all that may be, but of most runes.
func keys() []api.Key {
	var l []api.Key
	for mods := range 8 {
		for _, r := range runes {
			l = append(l, k(api.KeyRune, r, mods))
		}
		for kind := api.KeyUp; kind <= api.KeyEscape; kind++ {
			l = append(l, k(kind, 0, mods))
		}
		l = append(l, k(api.KeyPaste, 1, mods), k(api.KeyPaste, 2, mods))
	}
	return l
}

// wrongs are keys that may not be.
func wrongs() []api.Key {
	l := []api.Key{{}}
	for _, kind := range []int{math.MinInt, math.MinInt + 1, -256, -1, api.KeyNone, api.KeyPaste + 1, 255, 256 + api.KeyRune, 256 + api.KeyUp, 1<<32 + api.KeyRune, 1<<32 + api.KeyUp, 1<<32 + api.KeyPaste, math.MaxInt - 1, math.MaxInt} {
		l = append(l, k(kind, 0, 0), k(kind, 1, 0), k(kind, 'a', 7))
	}
	for _, r := range []int{math.MinInt, -1 << 32, -1, 0, 1, 2, '\r', 27, 31, 127, 0xd800, 0xd801, 0xdabc, 0xdffe, 0xdfff, 0x110000, 1 << 24, 1<<24 + 'a', 1<<31 - 1, 1 << 31, 1<<32 + 'a', math.MaxInt} {
		for mods := range 8 {
			l = append(l, k(api.KeyRune, r, mods))
		}
	}
	for _, r := range []int{math.MinInt, -1, 1, 2, 'a', 1 << 24, 1 << 32, math.MaxInt} {
		for kind := api.KeyUp; kind <= api.KeyEscape; kind++ {
			l = append(l, k(kind, r, 0))
		}
	}
	for _, r := range []int{math.MinInt, math.MinInt + 1, -1, 0, 3, 4, '1', 257, 1 << 24, 1<<32 + 1, math.MaxInt} {
		l = append(l, k(api.KeyPaste, r, 0))
	}
	for _, mods := range []int{math.MinInt, -8, -1, 8, 9, 15, 256, 1 << 32, 1<<32 + 1, math.MaxInt} {
		l = append(l, k(api.KeyRune, 'a', mods), k(api.KeyUp, 0, mods), k(api.KeyEnter, 0, mods), k(api.KeyTab, 0, mods), k(api.KeyPaste, 1, mods))
	}
	return l
}

// wrongModes are modes that may not be.
var wrongModes = []int{math.MinInt, -1024, -1, 1024, 1025, 2047, 1 << 32, 1<<32 + 1, math.MaxInt}

// alt is s, with what ModAlt puts ahead of it.
func alt(mods int, s string) string {
	if mods&api.ModAlt != 0 {
		return "\x1b" + s
	}
	return s
}

// moves is what a key that moves the cursor and ends in s sends.
func moves(mods, modes int, s string) string {
	n := 1
	for bit, worth := range map[int]int{api.ModShift: 1, api.ModAlt: 2, api.ModCtrl: 4} {
		if mods&bit != 0 {
			n += worth
		}
	}
	switch {
	case n > 1:
		return "\x1b[1;" + strconv.Itoa(n) + s
	case modes&api.ModeArrows != 0:
		return "\x1bO" + s
	}
	return "\x1b[" + s
}

// want is what x must send, as the chapter lists it.
func want(x api.Key, modes int) string {
	switch x.Kind {
	case api.KeyRune:
		struck := strings.ContainsRune("@ABCDEFGHIJKLMNOPQRSTUVWXYZ[\\]^_abcdefghijklmnopqrstuvwxyz", rune(x.Rune))
		if x.Mods&api.ModCtrl != 0 && struck {
			return alt(x.Mods, string([]byte{byte(x.Rune % 32)}))
		}
		return alt(x.Mods, string(rune(x.Rune)))
	case api.KeyEnter:
		if modes&api.ModeNewline != 0 {
			return alt(x.Mods, "\r\n")
		}
		return alt(x.Mods, "\r")
	case api.KeyTab:
		if x.Mods&api.ModShift != 0 {
			return "\x1b[Z"
		}
		return alt(x.Mods, "\t")
	case api.KeyBack:
		return alt(x.Mods, "\x7f")
	case api.KeyEscape:
		return alt(x.Mods, "\x1b")
	case api.KeyPaste:
		if modes&api.ModePaste == 0 {
			return ""
		}
		return map[int]string{1: "\x1b[200~", 2: "\x1b[201~"}[x.Rune]
	}
	return moves(x.Mods, modes, map[int]string{api.KeyUp: "A", api.KeyDown: "B", api.KeyRight: "C", api.KeyLeft: "D", api.KeyHome: "H", api.KeyEnd: "F"}[x.Kind])
}

// sends holds what x sends to s.
func sends(t *testing.T, x api.Key, modes int, s string) {
	t.Helper()
	if got, e := key.Bytes(x, modes); got != s || e != api.OK {
		t.Fatalf("%+v, %d: %q, %v, not %q", x, modes, got, e, s)
	}
}

// P15.1: the example, and others, written out.
func TestWrittenOut(t *testing.T) {
	const shift, alt, ctrl = api.ModShift, api.ModAlt, api.ModCtrl
	sends(t, k(api.KeyUp, 0, 0), 0, "\x1b[A")
	for _, c := range []struct {
		x     api.Key
		modes int
		want  string
	}{
		{k(api.KeyDown, 0, 0), api.ModeArrows, "\x1bOB"},
		{k(api.KeyRight, 0, shift), api.ModeArrows, "\x1b[1;2C"},
		{k(api.KeyLeft, 0, alt), 0, "\x1b[1;3D"},
		{k(api.KeyHome, 0, shift|alt), 0, "\x1b[1;4H"},
		{k(api.KeyEnd, 0, ctrl), 0, "\x1b[1;5F"},
		{k(api.KeyUp, 0, shift|ctrl), 0, "\x1b[1;6A"},
		{k(api.KeyDown, 0, alt|ctrl), allModes, "\x1b[1;7B"},
		{k(api.KeyRight, 0, shift|alt|ctrl), 0, "\x1b[1;8C"},
		{k(api.KeyHome, 0, 0), 0, "\x1b[H"},
		{k(api.KeyEnd, 0, 0), api.ModeArrows, "\x1bOF"},
		{k(api.KeyRune, 'a', 0), 0, "a"},
		{k(api.KeyRune, 'a', shift), 0, "a"},
		{k(api.KeyRune, 'c', ctrl), 0, "\x03"},
		{k(api.KeyRune, 'C', shift|ctrl), allModes, "\x03"},
		{k(api.KeyRune, '@', ctrl), 0, "\x00"},
		{k(api.KeyRune, '_', alt|ctrl), 0, "\x1b\x1f"},
		{k(api.KeyRune, ' ', ctrl), 0, " "},
		{k(api.KeyRune, '`', ctrl), 0, "`"},
		{k(api.KeyRune, 'é', alt), 0, "\x1b\xc3\xa9"},
		{k(api.KeyRune, '世', ctrl), 0, "\xe4\xb8\x96"},
		{k(api.KeyRune, 0x1f600, 0), 0, "\xf0\x9f\x98\x80"},
		{k(api.KeyEnter, 0, 0), allModes &^ api.ModeNewline, "\r"},
		{k(api.KeyEnter, 0, alt), api.ModeNewline, "\x1b\r\n"},
		{k(api.KeyTab, 0, ctrl), 0, "\t"},
		{k(api.KeyTab, 0, alt|ctrl), 0, "\x1b\t"},
		{k(api.KeyTab, 0, shift|alt), 0, "\x1b[Z"},
		{k(api.KeyBack, 0, shift), 0, "\x7f"},
		{k(api.KeyBack, 0, alt), 0, "\x1b\x7f"},
		{k(api.KeyEscape, 0, ctrl), 0, "\x1b"},
		{k(api.KeyEscape, 0, alt), 0, "\x1b\x1b"},
		{k(api.KeyPaste, 1, alt), api.ModePaste, "\x1b[200~"},
		{k(api.KeyPaste, 2, 0), api.ModePaste, "\x1b[201~"},
		{k(api.KeyPaste, 1, alt), allModes &^ api.ModePaste, ""},
	} {
		sends(t, c.x, c.modes, c.want)
	}
}

// P15.1: all keys, but of most runes, by all modes.
func TestAllKeys(t *testing.T) {
	for _, x := range keys() {
		for modes := range allModes + 1 {
			sends(t, x, modes, want(x, modes))
		}
	}
}

// P15.1: all runes, those that may not be, too.
func TestAllRunes(t *testing.T) {
	for r := range 0x110000 + 100 {
		for _, mods := range []int{0, api.ModShift, api.ModCtrl, 7} {
			x := k(api.KeyRune, r, mods)
			if r < 32 || r == 127 || 0xd800 <= r && r <= 0xdfff || r > 0x10ffff {
				if s, e := key.Bytes(x, 0); s != "" || e != api.ErrForm {
					t.Fatalf("%+v: %q, %v", x, s, e)
				}
				continue
			}
			sends(t, x, r&allModes, want(x, r&allModes))
		}
	}
}

// P15.1, R4: wrong keys and wrong modes.
func TestWrongBytes(t *testing.T) {
	for _, x := range wrongs() {
		for _, modes := range []int{0, allModes, 1024, -1} {
			if s, e := key.Bytes(x, modes); s != "" || e != api.ErrForm {
				t.Errorf("%+v, %d: %q, %v", x, modes, s, e)
			}
		}
	}
	for _, x := range keys() {
		for _, modes := range wrongModes {
			if s, e := key.Bytes(x, modes); s != "" || e != api.ErrForm {
				t.Errorf("%+v, %d: %q, %v", x, modes, s, e)
			}
		}
	}
}

// text is the text of l, as the chapter lists its bytes.
func text(l []api.Key) string {
	var b strings.Builder
	for _, x := range l {
		b.Write([]byte{byte(x.Kind), byte(x.Mods), byte(x.Rune / 65536), byte(x.Rune / 256 % 256), byte(x.Rune % 256)})
	}
	return b.String()
}

// undo holds l and its text to each other.
func undo(t *testing.T, l []api.Key) {
	t.Helper()
	was := slices.Clone(l)
	s, e := key.Text(l)
	if s != text(was) || e != api.OK || !slices.Equal(l, was) {
		t.Fatalf("%v: %x, %v", was, s, e)
	}
	x, e := key.Take(s)
	if !slices.Equal(x, was) || e != api.OK {
		t.Fatalf("%x: %v, %v", s, x, e)
	}
}

// P15.2, P15.3: keys alone, none, and many.
func TestText(t *testing.T) {
	undo(t, nil)
	undo(t, []api.Key{})
	all := keys()
	for _, x := range all {
		undo(t, []api.Key{x})
	}
	twice := slices.Repeat(all, 2)
	for n := range api.MaxKeys + 1 {
		undo(t, twice[n:2*n])
	}
	for c := range slices.Chunk(all, api.MaxKeys) {
		undo(t, c)
	}
	s, e := key.Text([]api.Key{k(api.KeyRune, 0x10fffe, 6), k(api.KeyPaste, 2, 1), k(api.KeyUp, 0, 0)})
	if s != "\x01\x06\x10\xff\xfe\x0c\x01\x00\x00\x02\x02\x00\x00\x00\x00" || e != api.OK {
		t.Errorf("%x, %v", s, e)
	}
}

// P15.2, P15.3: all runes.
func TestTextOfRunes(t *testing.T) {
	var l []api.Key
	for r := 32; r <= 0x10ffff; r++ {
		if r != 127 && (r < 0xd800 || r > 0xdfff) {
			l = append(l, k(api.KeyRune, r, r%8))
		}
	}
	for c := range slices.Chunk(l, api.MaxKeys) {
		undo(t, c)
	}
}

// P15.2, R4: wrong keys at all places, too many, and both.
func TestWrongText(t *testing.T) {
	good := slices.Repeat([]api.Key{k(api.KeyRune, 'a', 0), k(api.KeyUp, 0, 7)}, api.MaxKeys/2)
	for _, x := range wrongs() {
		for _, n := range []int{1, 2, 3, api.MaxKeys, api.MaxKeys + 1, api.MaxKeys + 2} {
			for _, at := range []int{0, n / 2, n - 1} {
				l := append(slices.Clone(good), good...)[:n]
				l[at] = x
				if s, e := key.Text(l); s != "" || e != api.ErrForm {
					t.Fatalf("%+v at %d of %d: %x, %v", x, at, n, s, e)
				}
			}
		}
	}
	for _, n := range []int{api.MaxKeys + 1, api.MaxKeys + 2, 2 * api.MaxKeys, 100000} {
		if s, e := key.Text(slices.Repeat(good[:1], n)); s != "" || e != api.ErrLimit {
			t.Errorf("%d: %x, %v", n, s, e)
		}
	}
	undo(t, good)
}

// refused holds Take to refusing s.
func refused(t *testing.T, s string) {
	t.Helper()
	if l, e := key.Take(s); len(l) != 0 || e != api.ErrBad {
		t.Fatalf("%x: %v, %v", s, l, e)
	}
}

// P15.2, P15.3: each byte at each place of a key: either it is the text of what it tells, or it is no text.
func TestEachByte(t *testing.T) {
	all := keys()
	known := 0
	for _, begin := range []string{"\x01\x00\x00\x00a", "\x01\x07\x10\xff\xff", "\x01\x02\x00\xd7\xff", "\x01\x02\x00\x00\x20", "\x02\x00\x00\x00\x00", "\x0b\x05\x00\x00\x00", "\x0c\x00\x00\x00\x01", "\x0c\x07\x00\x00\x02"} {
		for at := range 5 {
			for c := range 256 {
				b := []byte(begin)
				b[at] = byte(c)
				s := string(b)
				kind, r := int(b[0]), int(b[2])*65536+int(b[3])*256+int(b[4])
				may := b[1] < 8 && (kind == api.KeyRune && r >= 32 && r != 127 && r < 0x110000 && (r < 0xd800 || r > 0xdfff) ||
					kind >= api.KeyUp && kind <= api.KeyEscape && r == 0 || kind == api.KeyPaste && (r == 1 || r == 2))
				if !may {
					refused(t, s)
					refused(t, text(all[:3])+s)
					refused(t, s+text(all[:3]))
					continue
				}
				known++
				undo(t, []api.Key{k(kind, r, int(b[1]))})
				undo(t, append(slices.Clone(all[:3]), k(kind, r, int(b[1]))))
			}
		}
	}
	if known == 0 {
		t.Error("none may be")
	}
}

// P15.2: texts of no whole keys, of too many, and of none that may be.
func TestWrongTake(t *testing.T) {
	all := keys()
	s := text(all[:api.MaxKeys])
	for n := range len(s) {
		if n%5 != 0 {
			refused(t, s[:n])
		} else if l, e := key.Take(s[:n]); !slices.Equal(l, all[:n/5]) || e != api.OK {
			t.Fatalf("%d: %v, %v", n, l, e)
		}
	}
	for n := 1; n <= 12; n++ {
		refused(t, s+text(all)[:n])
	}
	refused(t, s+s)
	refused(t, strings.Repeat(s, 100))
	for _, bad := range []string{"a", "\x00", "\x00\x00\x00\x00\x00", "\x01", "\xff\xff\xff\xff\xff", "\x01\x00\x00\x00\x1f", "\x01\x00\x00\x00\x7f", "\x01\x00\x00\xd8\x00", "\x01\x00\x00\xdf\xff", "\x01\x00\x11\x00\x00", "\x01\x08\x00\x00a", "\x0d\x00\x00\x00\x00", "\x03\x00\x01\x00\x00", "\x0c\x00\x00\x00\x00", "\x0c\x00\x00\x00\x03", "\x0c\x00\x01\x00\x01"} {
		refused(t, bad)
		refused(t, text(all[:5])+bad)
	}
}

// R2: what Take tells is nobody else's, its spare room too.
func TestOwnMemory(t *testing.T) {
	for _, n := range []int{0, 1, 2, 3, 5, api.MaxKeys} {
		l := keys()[:n]
		s := text(l)
		x, _ := key.Take(s)
		y, _ := key.Take(s)
		for i := range x[:cap(x)] {
			x[:cap(x)][i] = k(-1, -1, -1)
		}
		z, e := key.Take(s)
		if !slices.Equal(y, l) || !slices.Equal(z, l) || e != api.OK {
			t.Errorf("%d: %v, %v, %v", n, y, z, e)
		}
	}
}
