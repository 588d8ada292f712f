package pack

import "strings"

// An item is what bytes tell: a number or a text; a none, if they tell nothing.
type item any

type (
	number int
	text   string
	none   struct{}
)

// A shape says which items follow each other, a rune each.
const (
	aNumber = 'n'
	aText   = 't'
)

// written are the bytes of l, which has numbers and texts alone.
func written(l []item) string {
	var b []byte
	for _, x := range l {
		if t, ok := x.(text); ok {
			b = append(withNumber(b, len(t)), t...)
			continue
		}
		b = withNumber(b, int(x.(number)))
	}
	return string(b)
}

// itemsOf tells the items of s, if they have just this shape, and what is behind them.
func itemsOf(s, shape string) (l []item, rest string, ok bool) {
	l = make([]item, 0, len(shape))
	for _, kind := range shape {
		x, behind := next(s, kind)
		if _, bad := x.(none); bad {
			return nil, "", false
		}
		l, s = append(l, x), behind
	}
	return l, s, true
}

// next tells the item of this kind with which s begins, and what is behind it.
func next(s string, kind rune) (item, string) {
	n, size := numberOf(s)
	if size == 0 {
		return none{}, ""
	}
	s = s[size:]
	if kind != aText {
		return number(n), s
	}
	if n > len(s) {
		return none{}, ""
	}
	// A copy, or the text would keep all that it came with.
	return text(strings.Clone(s[:n])), s[n:]
}
