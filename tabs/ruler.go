package tabs

import "strings"

// What a ruler has in a column.
const (
	stop = '|'
	free = '.'
)

// ruler is l as a text of a byte for each column, so that range tells columns.
func ruler(l []bool) string {
	var b strings.Builder
	for _, on := range l {
		if on {
			b.WriteRune(stop)
		} else {
			b.WriteRune(free)
		}
	}
	return b.String()
}

// A find is what is told of a stop that is sought: a place or a fewer.
type find any

type (
	// A place is the column of the stop.
	place int
	// A fewer is how many stops there are, where they are not enough.
	fewer int
)

// seek seeks the n-th stop of a ruler, n being at least 1.
func seek(text string, n int) find {
	found := 0
	for i, r := range text {
		if r != stop {
			continue
		}
		found++
		if found == n {
			return place(i)
		}
	}
	return fewer(found)
}
