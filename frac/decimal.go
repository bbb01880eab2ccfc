package frac

import (
	"strings"

	"verdigris/api"
	"verdigris/number"
)

// decimal is a decimal text in parts: whether it has a minus sign, and the digits before and behind the period.
type decimal struct {
	below          bool
	before, behind string
}

// splitDecimal returns the parts of a decimal text, and whether s is one.
func splitDecimal(s string) (decimal, bool) {
	text, below := strings.CutPrefix(s, "-")
	period, end := -1, 0
characters:
	for i, c := range text {
		switch {
		case c >= '0' && c <= '9':
		case c == '.' && period < 0:
			period = i
		default:
			break characters
		}
		end = i + 1
	}
	if end < len(text) {
		return decimal{}, false
	}
	d := decimal{below: below, before: text}
	if period >= 0 {
		d.before, d.behind = text[:period], text[period+1:]
	}
	return d, d.isValid(period >= 0)
}

// isValid reports whether the digits, behind which there is a period or not, are those of a decimal text.
func (d decimal) isValid(period bool) bool {
	switch {
	case d.before == "" || d.before[0] == '0' && d.before != "0":
		return false
	case period && d.behind == "" || len(d.behind) > api.MaxDecimals:
		return false
	}
	return !d.below || d.digits() != ""
}

// digits returns all digits, without the zeros in front.
func (d decimal) digits() string {
	return strings.TrimLeft(d.before+d.behind, "0")
}

// units returns how many units of its last digit the number has, and whether the digits before the period are at most as many as a fraction can have.
func (d decimal) units() (number.Signed, bool) {
	if len(d.before) > api.MaxWhole {
		return number.Signed{}, false
	}
	digits := d.digits()
	switch {
	case digits == "":
		digits = "0"
	case d.below:
		digits = "-" + digits
	}
	return number.Read(digits, api.MaxWhole+api.MaxDecimals)
}

// decimalText returns n units of a decimal place as a text.
func decimalText(n number.Signed, places int) string {
	digits, _ := n.Decimal(api.MaxWhole + api.MaxDecimals) // a fraction has no more of them
	digits = strings.Repeat("0", max(places+1-len(digits), 0)) + digits
	period := len(digits) - places
	text := digits[:period]
	if places > 0 {
		text += "." + digits[period:]
	}
	if n.Below {
		text = "-" + text
	}
	return text
}

func tenTo(n int) number.Signed {
	return number.Of(10).ToPower(n)
}
