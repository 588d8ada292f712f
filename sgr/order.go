package sgr

import "beacon/api"

// An order is what a number asks for, or several that belong together.
type order any

// A plain one takes all back.
type plain struct{}

// An on one and an off one are flags that come and go.
type (
	on  int
	off int
)

// A front one and a back one are colours of Fg and of Bg.
type (
	front int
	back  int
)

// A void one changes nothing.
type void struct{}

// obey tells what a becomes by o.
func obey(a api.Attr, o order) api.Attr {
	if _, ok := o.(void); ok {
		return a
	}
	if _, ok := o.(plain); ok {
		return api.Attr{Fg: noColour, Bg: noColour}
	}
	if f, ok := o.(on); ok {
		a.Flags |= int(f)
		return a
	}
	if f, ok := o.(off); ok {
		a.Flags &^= int(f)
		return a
	}
	if c, ok := o.(front); ok {
		a.Fg = int(c)
		return a
	}
	a.Bg = int(o.(back))
	return a
}

// read tells what the first of l asks for, with those that belong to it, and the numbers behind; l is not empty.
func read(l []int) (order, []int) {
	n, rest := l[0], l[1:]
	switch n {
	case 38:
		return long(rest)
	case 38 + toBack:
		o, rest := long(rest)
		return behind(o), rest
	}
	return alone(n), rest
}

// alone tells what a number asks for that stands by itself.
func alone(n int) order {
	switch {
	case n == 0:
		return plain{}
	case n <= 9:
		return on(flag(n))
	case n == 22:
		return off(api.FlagBold | api.FlagFaint)
	case in(n, 23, 29):
		return off(flag(n - 20))
	}
	if c, ok := short(n).(front); ok {
		return c
	}
	return behind(short(n - toBack))
}

// behind is of Bg what o is of Fg.
func behind(o order) order {
	if c, ok := o.(front); ok {
		return back(c)
	}
	return o
}

// flag is the flag that n puts on: none, if no flag has that number.
func flag(n int) int {
	for i, r := range flagDigits {
		if int(r-'0') == n {
			return 1 << i
		}
	}
	return 0
}

// short is the colour of Fg that one number is.
func short(n int) order {
	switch {
	case in(n, 30, 37):
		return front(n - 30)
	case n == 39:
		return front(noColour)
	case in(n, 90, 97):
		return front(n - 90 + 8)
	}
	return void{}
}

// long is the colour of Fg that the first of l are, and the numbers behind it: none, if l does not begin as a colour does.
func long(l []int) (order, []int) {
	switch {
	case len(l) >= 2 && l[0] == 5:
		return within(l[1], l[1]), l[2:]
	case len(l) >= 4 && l[0] == 2:
		return within(firstMixed+l[1]<<16+l[2]<<8+l[3], max(l[1], l[2], l[3])), l[4:]
	}
	return void{}, nil
}

// within is colour c of Fg, unless most, the greatest of its numbers, is too great.
func within(c, most int) order {
	if most > maxPalette {
		return void{}
	}
	return front(c)
}
