package pack

const (
	perByte   = 7            // bits of a number in each of its bytes
	more      = 1 << perByte // what all its bytes but the last one have beside them
	maxBytes  = 5
	maxNumber = 1<<(perByte*maxBytes) - 1
)

// withNumber puts n's bytes behind b.
func withNumber(b []byte, n int) []byte {
	for ; n >= more; n >>= perByte {
		b = append(b, byte(n)|more)
	}
	return append(b, byte(n))
}

// numberOf tells the number with whose bytes s begins, and how many these are: 0, if they are none's.
func numberOf(s string) (n, size int) {
	for i := range min(len(s), maxBytes) {
		n |= int(s[i]%more) << (perByte * i)
		if s[i] >= more {
			continue
		}
		if s[i] == 0 && i > 0 {
			// A last byte that adds nothing: fewer would have done.
			break
		}
		return n, i + 1
	}
	return 0, 0
}
