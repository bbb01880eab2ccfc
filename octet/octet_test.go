package octet

import (
	"math"
	"strings"
	"testing"

	"verdigris/api"
)

// full has as many octets as are allowed, and over one too many.
var (
	full = strings.Repeat("ab\x00\xff", api.MaxOctets/4)
	over = full + "a"
)

// readers returns the functions of P7.1, and how many octets each one needs.
func readers() map[string]struct {
	read func(s string, at int) (int, api.Errno)
	size int
} {
	return map[string]struct {
		read func(s string, at int) (int, api.Errno)
		size int
	}{
		"U8": {U8, 1}, "U16": {U16, 2}, "U32": {U32, 4}, "S32": {S32, 4},
	}
}

// P7.1
func TestNumbers(t *testing.T) {
	for _, x := range []struct {
		name, s  string
		at, want int
	}{
		{"U8", "\x00", 0, 0},
		{"U8", "\x7f\x80", 0, 127},
		{"U8", "\x7f\x80", 1, 128},
		{"U8", "\xff", 0, 255},
		{"U16", "\x01\x02\x03", 0, 258},
		{"U16", "\x01\x02\x03", 1, 515},
		{"U16", "\xff\xff", 0, 65535},
		{"U16", "\x80\x00", 0, 32768},
		{"U16", "\x00\x80", 0, 128},
		{"U32", "\x01\x02\x03\x04", 0, 16909060},
		{"U32", "\xff\x01\x02\x03\x04\xff", 1, 16909060},
		{"U32", "\xff\xff\xff\xfe", 0, 4294967294},
		{"U32", "\x80\x00\x00\x00", 0, 2147483648},
		{"U32", "\xff\xff\xff\xff", 0, 4294967295},
		{"S32", "\x01\x02\x03\x04", 0, 16909060},
		{"S32", "\xff\x01\x02\x03\x04\xff", 1, 16909060},
		{"S32", "\xff\xff\xff\xfe", 0, -2},
		{"S32", "\xff\xff\xff\xff", 0, -1},
		{"S32", "\x00\x00\x00\x00", 0, 0},
		{"S32", "\x7f\xff\xff\xff", 0, math.MaxInt32},
		{"S32", "\x80\x00\x00\x00", 0, math.MinInt32},
		{"S32", "\x00\x00\xff\xff", 0, 65535},
		{"U8", full, api.MaxOctets - 1, 255},
		{"U16", full, api.MaxOctets - 2, 255},
		{"U32", full, api.MaxOctets - 4, 0x616200ff},
		{"S32", full, api.MaxOctets - 4, 0x616200ff},
	} {
		if n, e := readers()[x.name].read(x.s, x.at); n != x.want || e != api.OK {
			t.Errorf("%s(%.10q, %d): %d, error %d; want %d", x.name, x.s, x.at, n, e, x.want)
		}
	}
}

// P7.1
func TestNumberErrors(t *testing.T) {
	for name, r := range readers() {
		for _, x := range []struct {
			s  string
			at int
			e  api.Errno
		}{
			{over, 0, api.ErrLong},
			{over, -1, api.ErrLong},
			{over, len(over), api.ErrLong},
			{"abcd", -1, api.ErrArg},
			{"", -1, api.ErrArg},
			{"abcd", math.MinInt, api.ErrArg},
			{full, -1, api.ErrArg},
			{"", 0, api.ErrShort},
			{"", 1, api.ErrShort},
			{"abcd"[:r.size-1], 0, api.ErrShort},
			{"abcd", 5 - r.size, api.ErrShort},
			{"abcd", 4, api.ErrShort},
			{"abcd", 5, api.ErrShort},
			{"abcd", math.MaxInt, api.ErrShort},
			{"abcd", math.MaxInt - 3, api.ErrShort},
			{full, api.MaxOctets + 1 - r.size, api.ErrShort},
			{full, api.MaxOctets, api.ErrShort},
		} {
			if n, e := r.read(x.s, x.at); n != 0 || e != x.e {
				t.Errorf("%s(%.10q, %d): %d, error %d; want %d", name, x.s, x.at, n, e, x.e)
			}
		}
	}
}

// P7.2
func TestPart(t *testing.T) {
	for _, x := range []struct {
		s     string
		at, n int
		want  string
	}{
		{"abc", 1, 1, "b"},
		{"abc", 0, 3, "abc"},
		{"abc", 1, 2, "bc"},
		{"abc", 0, 0, ""},
		{"abc", 3, 0, ""},
		{"", 0, 0, ""},
		{"\x00\xff\xe4", 1, 2, "\xff\xe4"},
		{"é", 1, 1, "\xa9"},
		{full, 0, api.MaxOctets, full},
		{full, api.MaxOctets, 0, ""},
		{full, api.MaxOctets - 2, 2, "\x00\xff"},
	} {
		if part, e := Part(x.s, x.at, x.n); part != x.want || e != api.OK {
			t.Errorf("Part(%.10q, %d, %d): %.10q, error %d", x.s, x.at, x.n, part, e)
		}
	}
}

// P7.2
func TestPartErrors(t *testing.T) {
	for _, x := range []struct {
		s     string
		at, n int
		e     api.Errno
	}{
		{over, 0, 1, api.ErrLong},
		{over, -1, -1, api.ErrLong},
		{over, api.MaxOctets + 2, 1, api.ErrLong},
		{"abc", -1, 1, api.ErrArg},
		{"abc", 1, -1, api.ErrArg},
		{"abc", 4, -1, api.ErrArg},
		{"abc", -1, 4, api.ErrArg},
		{"", -1, 0, api.ErrArg},
		{"", 0, -1, api.ErrArg},
		{"abc", math.MinInt, math.MinInt, api.ErrArg},
		{"abc", math.MinInt, math.MaxInt, api.ErrArg},
		{"abc", math.MaxInt, math.MinInt, api.ErrArg},
		{"abc", 0, 4, api.ErrShort},
		{"abc", 1, 3, api.ErrShort},
		{"abc", 3, 1, api.ErrShort},
		{"abc", 4, 0, api.ErrShort},
		{"abc", 5, 1, api.ErrShort},
		{"", 1, 0, api.ErrShort},
		{"", 0, 1, api.ErrShort},
		{"abc", 0, math.MaxInt, api.ErrShort},
		{"abc", 1, math.MaxInt, api.ErrShort},
		{"abc", math.MaxInt, 0, api.ErrShort},
		{"abc", math.MaxInt, 1, api.ErrShort},
		{"abc", math.MaxInt, math.MaxInt, api.ErrShort},
		{full, 1, api.MaxOctets, api.ErrShort},
		{full, api.MaxOctets + 1, 0, api.ErrShort},
	} {
		if part, e := Part(x.s, x.at, x.n); part != "" || e != x.e {
			t.Errorf("Part(%.10q, %d, %d): %.10q, error %d; want %d", x.s, x.at, x.n, part, e, x.e)
		}
		if text, e := Text(x.s, x.at, x.n); text != "" || e != x.e {
			t.Errorf("Text(%.10q, %d, %d): %.10q, error %d; want %d", x.s, x.at, x.n, text, e, x.e)
		}
	}
}

// P7.2
func TestText(t *testing.T) {
	long := strings.Repeat("~", api.MaxOctets)
	for _, x := range []struct {
		s     string
		at, n int
		want  string
		e     api.Errno
	}{
		{"ab\x00\x00", 0, 4, "ab", api.OK},
		{"ab", 0, 2, "ab", api.OK},
		{"ab", 0, 1, "a", api.OK},
		{"ab", 2, 0, "", api.OK},
		{"", 0, 0, "", api.OK},
		{"\x00", 0, 1, "", api.OK},
		{"\x00\x00\x00", 0, 3, "", api.OK},
		{" ~\x00", 0, 3, " ~", api.OK},
		{"\nab\x00c", 1, 3, "ab", api.OK},
		{"a\x00b\x00", 2, 2, "b", api.OK},
		{"a\x00b\x00", 0, 2, "a", api.OK},
		{"a\x00b\x00", 1, 1, "", api.OK},
		{long, 0, api.MaxOctets, long, api.OK},
		{long[1:] + "\x00", 0, api.MaxOctets, long[1:], api.OK},
		{"a\x00b\x00", 0, 4, "", api.ErrForm},
		{"a\x00\x00b", 0, 4, "", api.ErrForm},
		{"a\x00b\x00", 1, 3, "", api.ErrForm},
		{"a\x00\x00\xff", 0, 4, "", api.ErrForm},
		{"a\x00\n\x00", 0, 4, "", api.ErrForm},
		{"a\n\x00\x00", 0, 4, "", api.ErrForm},
		{"a\n", 0, 2, "", api.ErrForm},
		{"\x1f", 0, 1, "", api.ErrForm},
		{"\x7f", 0, 1, "", api.ErrForm},
		{"\x80", 0, 1, "", api.ErrForm},
		{"\xff\x00", 0, 2, "", api.ErrForm},
		{"aé\x00", 0, 4, "", api.ErrForm},
		{"é", 1, 1, "", api.ErrForm},
		{"\u4e2d", 0, 3, "", api.ErrForm},
		{"\xc1\x81", 0, 2, "", api.ErrForm},
		{"\xc0\x80", 0, 2, "", api.ErrForm},
		{"\ufffd", 0, 3, "", api.ErrForm},
		{long[1:] + "\x01", 0, api.MaxOctets, "", api.ErrForm},
	} {
		if text, e := Text(x.s, x.at, x.n); text != x.want || e != x.e {
			t.Errorf("Text(%.10q, %d, %d): %.10q, error %d", x.s, x.at, x.n, text, e)
		}
	}
}

// P7.3
func TestPutNumbers(t *testing.T) {
	for _, x := range []struct {
		name string
		put  func(n int) (string, api.Errno)
		n    int
		want string
		e    api.Errno
	}{
		{"PutU8", PutU8, 0, "\x00", api.OK},
		{"PutU8", PutU8, 128, "\x80", api.OK},
		{"PutU8", PutU8, 255, "\xff", api.OK},
		{"PutU8", PutU8, 256, "", api.ErrArg},
		{"PutU8", PutU8, -1, "", api.ErrArg},
		{"PutU8", PutU8, math.MaxInt, "", api.ErrArg},
		{"PutU8", PutU8, math.MinInt, "", api.ErrArg},
		{"PutU16", PutU16, 0, "\x00\x00", api.OK},
		{"PutU16", PutU16, 515, "\x02\x03", api.OK},
		{"PutU16", PutU16, 255, "\x00\xff", api.OK},
		{"PutU16", PutU16, 256, "\x01\x00", api.OK},
		{"PutU16", PutU16, 65535, "\xff\xff", api.OK},
		{"PutU16", PutU16, 65536, "", api.ErrArg},
		{"PutU16", PutU16, -1, "", api.ErrArg},
		{"PutU16", PutU16, math.MaxInt, "", api.ErrArg},
		{"PutU16", PutU16, math.MinInt, "", api.ErrArg},
		{"PutU32", PutU32, 0, "\x00\x00\x00\x00", api.OK},
		{"PutU32", PutU32, 16909060, "\x01\x02\x03\x04", api.OK},
		{"PutU32", PutU32, 65536, "\x00\x01\x00\x00", api.OK},
		{"PutU32", PutU32, math.MaxInt32 + 1, "\x80\x00\x00\x00", api.OK},
		{"PutU32", PutU32, 4294967294, "\xff\xff\xff\xfe", api.OK},
		{"PutU32", PutU32, 4294967295, "\xff\xff\xff\xff", api.OK},
		{"PutU32", PutU32, 4294967296, "", api.ErrArg},
		{"PutU32", PutU32, -1, "", api.ErrArg},
		{"PutU32", PutU32, math.MinInt32, "", api.ErrArg},
		{"PutU32", PutU32, math.MaxInt, "", api.ErrArg},
		{"PutU32", PutU32, math.MinInt, "", api.ErrArg},
		{"PutS32", PutS32, 0, "\x00\x00\x00\x00", api.OK},
		{"PutS32", PutS32, 16909060, "\x01\x02\x03\x04", api.OK},
		{"PutS32", PutS32, -1, "\xff\xff\xff\xff", api.OK},
		{"PutS32", PutS32, -2, "\xff\xff\xff\xfe", api.OK},
		{"PutS32", PutS32, -256, "\xff\xff\xff\x00", api.OK},
		{"PutS32", PutS32, math.MaxInt32, "\x7f\xff\xff\xff", api.OK},
		{"PutS32", PutS32, math.MinInt32, "\x80\x00\x00\x00", api.OK},
		{"PutS32", PutS32, math.MaxInt32 + 1, "", api.ErrArg},
		{"PutS32", PutS32, math.MinInt32 - 1, "", api.ErrArg},
		{"PutS32", PutS32, math.MaxUint32, "", api.ErrArg},
		{"PutS32", PutS32, math.MaxInt, "", api.ErrArg},
		{"PutS32", PutS32, math.MinInt, "", api.ErrArg},
	} {
		if s, e := x.put(x.n); s != x.want || e != x.e {
			t.Errorf("%s(%d): %q, error %d", x.name, x.n, s, e)
		}
	}
}

// P7.4
func TestPutText(t *testing.T) {
	long := strings.Repeat("~", api.MaxOctets)
	for _, x := range []struct {
		t    string
		n    int
		want string
		e    api.Errno
	}{
		{"ab", 4, "ab\x00\x00", api.OK},
		{"ab", 2, "ab", api.OK},
		{"", 0, "", api.OK},
		{"", 3, "\x00\x00\x00", api.OK},
		{" ~", 3, " ~\x00", api.OK},
		{"", api.MaxOctets, strings.Repeat("\x00", api.MaxOctets), api.OK},
		{long, api.MaxOctets, long, api.OK},
		{long[1:], api.MaxOctets, long[1:] + "\x00", api.OK},
		{"ab", -1, "", api.ErrArg},
		{"a\n", -1, "", api.ErrArg},
		{"", math.MinInt, "", api.ErrArg},
		{"ab", api.MaxOctets + 1, "", api.ErrArg},
		{"a\n", api.MaxOctets + 1, "", api.ErrArg},
		{long + "~", api.MaxOctets + 1, "", api.ErrArg},
		{"ab", math.MaxInt, "", api.ErrArg},
		{"a\n", 4, "", api.ErrForm},
		{"a\n", 1, "", api.ErrForm},
		{"ab\n", 0, "", api.ErrForm},
		{"a\x00", 4, "", api.ErrForm},
		{"\x00", 4, "", api.ErrForm},
		{"\x1f", 4, "", api.ErrForm},
		{"\x7f", 4, "", api.ErrForm},
		{"\x80", 4, "", api.ErrForm},
		{"\xff", 4, "", api.ErrForm},
		{"é", 4, "", api.ErrForm},
		{"\ufffd", 4, "", api.ErrForm},
		{"\xc1\x81", 4, "", api.ErrForm},
		{long + "\x1f", api.MaxOctets, "", api.ErrForm},
		{"abc", 2, "", api.ErrLong},
		{"a", 0, "", api.ErrLong},
		{long, api.MaxOctets - 1, "", api.ErrLong},
		{long + "~", api.MaxOctets, "", api.ErrLong},
	} {
		if s, e := PutText(x.t, x.n); s != x.want || e != x.e {
			t.Errorf("PutText(%.10q, %d): %.10q, error %d; want %d", x.t, x.n, s, e, x.e)
		}
	}
}

// P7.4
func TestPad(t *testing.T) {
	for _, x := range []struct {
		s    string
		n    int
		want string
		e    api.Errno
	}{
		{"abc", 4, "abc\x00", api.OK},
		{"abcd", 4, "abcd", api.OK},
		{"abcde", 4, "abcde\x00\x00\x00", api.OK},
		{"abc", 1, "abc", api.OK},
		{"", 1, "", api.OK},
		{"", 4, "", api.OK},
		{"", api.MaxPad, "", api.OK},
		{"a", api.MaxPad, "a" + strings.Repeat("\x00", 63), api.OK},
		{"a\x00", 3, "a\x00\x00", api.OK},
		{"\xff\n\xe4", 5, "\xff\n\xe4\x00\x00", api.OK},
		{full, 1, full, api.OK},
		{full, api.MaxPad, full, api.OK},
		{full[1:], api.MaxPad, full[1:] + "\x00", api.OK},
		{full[1:], 3, full[1:], api.OK},
		{full[3:], 3, full[3:] + "\x00\x00", api.OK},
		{over, 1, "", api.ErrLong},
		{over, 0, "", api.ErrLong},
		{over, api.MaxPad + 1, "", api.ErrLong},
		{"abc", 0, "", api.ErrArg},
		{"abc", -1, "", api.ErrArg},
		{"", 0, "", api.ErrArg},
		{"abc", api.MaxPad + 1, "", api.ErrArg},
		{full, api.MaxPad + 1, "", api.ErrArg},
		{"abc", math.MaxInt, "", api.ErrArg},
		{"abc", math.MinInt, "", api.ErrArg},
		{full, 3, "", api.ErrLong},
		{full, 63, "", api.ErrLong},
		{full[2:], 63, "", api.ErrLong},
	} {
		if s, e := Pad(x.s, x.n); s != x.want || e != x.e {
			t.Errorf("Pad(%.10q, %d): %.10q, error %d; want %d", x.s, x.n, s, e, x.e)
		}
	}
}
