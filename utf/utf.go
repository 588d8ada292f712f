// Package utf: bytes become runes: see ../../shared/doc/01-utf.md.
package utf

import (
	"strings"
	"unicode/utf8"

	"beacon/api"
)

// bad stands for bytes that are no rune's.
const bad rune = 0xfffd

// A piece is what a text is: a whole, an open or a stray one.
type piece any

// A whole one is just one rune's bytes.
type whole rune

// An open one is a part: bytes that go on may make it whole.
type open string

// A stray one is neither.
type stray struct{}

// Part tells whether s is a part.
func Part(s string) bool {
	_, ok := read(s).(open)
	return ok
}

// Next tells the runes that are known once b comes behind part, and the part then.
func Next(part string, b byte) (l []int, left string, e api.Errno) {
	if !fits(part) {
		return nil, "", api.ErrForm
	}
	l, left = step(nil, part, b)
	return l, left, api.OK
}

// All tells the runes of part and s, and the part that is left.
func All(part string, s string) (l []int, left string, e api.Errno) {
	if !fits(part) {
		return nil, "", api.ErrForm
	}
	text := part + s
	for i, r := range text {
		if r == bad && !strings.HasPrefix(text[i:], string(bad)) {
			// Range tells each byte of a broken rune alone: here the part as one is broken.
			l, left = step(l, left, text[i])
			continue
		}
		// A rune's first byte never goes on, so what was open ahead of it stays broken.
		l, left = append(broken(l, left), int(r)), ""
	}
	return l, left, api.OK
}

// Flush tells what a part is if nothing comes any more.
func Flush(part string) ([]int, api.Errno) {
	if !fits(part) {
		return nil, api.ErrForm
	}
	return broken(nil, part), api.OK
}

// fits tells whether a byte may come behind part.
func fits(part string) bool {
	return part == "" || Part(part)
}

// broken puts behind l what a part becomes that does not go on.
func broken(l []int, part string) []int {
	if part == "" {
		return l
	}
	return append(l, int(bad))
}

// step puts behind l the runes that b makes behind part, and tells the part then.
func step(l []int, part string, b byte) ([]int, string) {
	alone := string([]byte{b})
	got := read(part + alone)
	if _, ok := got.(stray); ok {
		l = broken(l, part)
		got = read(alone)
	}
	if s, ok := got.(open); ok {
		return l, string(s)
	}
	return append(l, closed(got)), ""
}

// closed is the rune of a piece that is not open.
func closed(p piece) int {
	if _, ok := p.(stray); ok {
		return int(bad)
	}
	return int(p.(whole))
}

// read tells what s is.
func read(s string) piece {
	if s != "" && !utf8.FullRuneInString(s) {
		return open(s)
	}
	// Of a long text no more is looked at than a rune may have.
	for _, r := range s[:min(len(s), utf8.UTFMax)] {
		if string(r) == s {
			return whole(r)
		}
	}
	return stray{}
}
