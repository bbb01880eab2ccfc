package number

import "strings"

// Digits are read and written in groups, each of which fits into a word.
const (
	groupDigits = 19
	groupBase   = 10000000000000000000 // 10^groupDigits
)

// Read returns the whole number that a text writes: decimal digits without leading zeros, behind a minus sign if it is below 0. It reports whether the text is such a one, with at most that many digits; their number is looked at first, as reading takes the square of its time.
func Read(text string, most int) (Signed, bool) {
	digits, below := strings.CutPrefix(text, "-")
	if digits == "" || len(digits) > most || digits[0] == '0' && text != "0" {
		return Signed{}, false
	}
	m, ok := readDigits(digits)
	if !ok {
		return Signed{}, false
	}
	return Signed{m, below}, true
}

func readDigits(digits string) (m Magnitude, ok bool) {
	m = make(Magnitude, 0, len(digits)/groupDigits+1)
groups:
	for digits != "" {
		size := (len(digits)-1)%groupDigits + 1 // the first group is the short one
		group := uint64(0)
		for i := range size {
			digit := digits[i] - '0'
			if digit > 9 {
				break groups
			}
			group = group*10 + uint64(digit)
		}
		m = m.appendGroup(group)
		digits = digits[size:]
	}
	return m, digits == ""
}

// appendGroup returns the number with the digits of a group behind its own ones. It writes to the words of the number.
func (m Magnitude) appendGroup(group uint64) Magnitude {
	carry := group
	for i, w := range m {
		m[i], carry = multiply(w, groupBase, carry)
	}
	if carry == 0 {
		return m
	}
	return append(m, carry)
}

// Decimal returns the digits of the number, and whether these are at most that many; if not, it returns none.
func (m Magnitude) Decimal(most int) (string, bool) {
	if (len(m)-1)*groupDigits >= most { // a word has more values than a group, so there are more digits than those of the words but one
		return "", false
	}
	text := make([]byte, len(m)*(groupDigits+1)+1)
	start := len(text)
	put := func(group uint64, width int) {
		for end := start - width; group > 0 || start > end; group /= 10 {
			start--
			text[start] = '0' + byte(group%10)
		}
	}
	for len(m) > 1 {
		quotient, group := m.divideByWord(groupBase)
		put(group, groupDigits)
		m = quotient
	}
	put(m.word(0), 1)
	if len(text)-start > most {
		return "", false
	}
	return string(text[start:]), true
}
