package octet

import "strings"

// zero is the octet behind texts.
const zero = "\x00"

// textLength returns how many text octets s begins with. An octet above 127 is no text octet, whether it is a part of a rune or of none: either is read as a rune above 127.
func textLength(s string) int {
	length := 0
characters:
	for i, c := range s {
		switch {
		case c >= ' ' && c <= '~':
			length = i + 1
		default:
			break characters
		}
	}
	return length
}

// withZeros returns s and zeros behind it, n octets in all.
func withZeros(s string, n int) string {
	return s + strings.Repeat(zero, n-len(s))
}
