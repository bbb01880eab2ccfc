package digest

import (
	"crypto/md5"
	"math"
	"strings"
	"testing"

	"verdigris/api"
)

const (
	none    = "d41d8cd98f00b204e9800998ecf8427e"
	most32  = math.MaxUint32
	zeroSum = "00000000000000000000000000000000"
)

// full has as many octets as are allowed, and over one too many.
var (
	full = strings.Repeat("ab\x00\xff", api.MaxDigest/4)
	over = full + "a"
)

// is returns a sum that comes without an error.
func is(t *testing.T) func(sum [16]byte, e api.Errno) [16]byte {
	return func(sum [16]byte, e api.Errno) [16]byte {
		t.Helper()
		if e != api.OK {
			t.Fatalf("error %d", e)
		}
		return sum
	}
}

// added returns a digest in progress with the pieces behind.
func added(t *testing.T, d api.Digest, pieces ...string) api.Digest {
	t.Helper()
	for _, s := range pieces {
		more, e := More(d, s)
		if e != api.OK {
			t.Fatalf("More(%v, %.70q): error %d", d, s, e)
		}
		d = more
	}
	return d
}

// P8.1 and P8.2
func TestSum(t *testing.T) {
	for _, x := range []struct{ s, want string }{
		{"", none},
		{"a", "0cc175b9c0f1b6a831c399e269772661"},
		{"abc", "900150983cd24fb0d6963f7d28e17f72"},
		{"message digest", "f96b697d7cb7938d525a2f31aaf161d0"},
		{"abcdefghijklmnopqrstuvwxyz", "c3fcd3d76192e4007dfb496cca67e13b"},
		{"ABCDEFGHIJKLMNOPQRSTUVWXYZabcdefghijklmnopqrstuvwxyz0123456789", "d174ab98d277d9f5a5611c2c9f419d9f"},
		{strings.Repeat("1234567890", 8), "57edf4a22be3c955ac49da2e2107b67a"},
	} {
		if sum, e := Sum(x.s); Hex(sum) != x.want || e != api.OK {
			t.Errorf("Sum(%q): %x, error %d; want %s", x.s, sum, e, x.want)
		}
	}
}

// P8.1: all lengths at which the number of blocks changes, and the greatest one, which needs 1025 blocks.
func TestSumLengths(t *testing.T) {
	for _, n := range []int{55, 56, 57, 63, 64, 65, 119, 120, 127, 128, 32767, 32768, api.MaxDigest - 64, api.MaxDigest - 9, api.MaxDigest - 8, api.MaxDigest - 1, api.MaxDigest} {
		for _, octet := range []string{"\x00", "a", "\x80", "\xff"} {
			s := strings.Repeat(octet, n)
			if sum, e := Sum(s); sum != md5.Sum([]byte(s)) || e != api.OK {
				t.Errorf("Sum of %d octets %q: %x, error %d", n, octet, sum, e)
			}
		}
	}
	if sum, e := Sum(full); sum != md5.Sum([]byte(full)) || e != api.OK {
		t.Errorf("Sum(full): %x, error %d", sum, e)
	}
}

// P8.1
func TestSumErrors(t *testing.T) {
	for _, s := range []string{over, full + full} {
		if sum, e := Sum(s); sum != [16]byte{} || e != api.ErrLong {
			t.Errorf("Sum of %d octets: %x, error %d", len(s), sum, e)
		}
	}
}

// P8.2
func TestHex(t *testing.T) {
	for _, x := range []struct {
		sum  [16]byte
		want string
	}{
		{[16]byte{}, zeroSum},
		{[16]byte{0x01, 0x23, 0x45, 0x67, 0x89, 0xab, 0xcd, 0xef, 0xfe, 0xdc, 0xba, 0x98, 0x76, 0x54, 0x32, 0x10}, "0123456789abcdeffedcba9876543210"},
		{[16]byte{15: 1}, zeroSum[2:] + "01"},
		{[16]byte{0: 0xa0}, "a0" + zeroSum[2:]},
		{[16]byte{255, 255, 255, 255, 255, 255, 255, 255, 255, 255, 255, 255, 255, 255, 255, 255}, strings.Repeat("f", 32)},
	} {
		if text := Hex(x.sum); text != x.want {
			t.Errorf("Hex(%v): %q", x.sum, text)
		}
		if sum, e := Unhex(x.want); sum != x.sum || e != api.OK {
			t.Errorf("Unhex(%q): %v, error %d", x.want, sum, e)
		}
	}
}

// P8.2
func TestUnhexErrors(t *testing.T) {
	for _, text := range []string{
		"", "0", "00", "d4", none[:30], none[:31], none + "0", none + none, none + "\n", " " + none, " " + none[1:],
		strings.ToUpper(none), strings.Replace(none, "d", "D", 1), none[:31] + "E", "+" + none[1:], "-" + none[1:], "0x" + none[2:],
		none[:31] + "g", none[:31] + "`", none[:31] + "G", none[:31] + "@", none[:31] + "/", none[:31] + ":", none[:31] + "\x00", none[:31] + "\xff",
		none[:30] + "é", none[:31] + "é", strings.Repeat("é", 16), strings.Repeat("é", 32), strings.Repeat("٣", 16),
	} {
		if sum, e := Unhex(text); sum != [16]byte{} || e != api.ErrForm {
			t.Errorf("Unhex(%q): %x, error %d", text, sum, e)
		}
	}
}

// P8.2: of all octets, only the 16 digits are digits, wherever they stand.
func TestUnhexOctets(t *testing.T) {
	for at := range 32 {
		for octet := range 256 {
			text := none[:at] + string([]byte{byte(octet)}) + none[at+1:]
			sum, e := Unhex(text)
			if octet >= '0' && octet <= '9' || octet >= 'a' && octet <= 'f' {
				if Hex(sum) != text || e != api.OK {
					t.Errorf("Unhex(%q): %x, error %d", text, sum, e)
				}
			} else if sum != [16]byte{} || e != api.ErrForm {
				t.Errorf("Unhex(%q): %x, error %d", text, sum, e)
			}
		}
	}
}

// P8.3
func TestNew(t *testing.T) {
	want := api.Digest{Words: [4]int{0x67452301, 0xefcdab89, 0x98badcfe, 0x10325476}}
	if d := New(); d != want {
		t.Errorf("New(): %v", d)
	}
	if sum := is(t)(Done(New())); Hex(sum) != none {
		t.Errorf("Done(New()): %x", sum)
	}
}

// invalid returns digests in progress that are not valid, by what is wrong.
func invalid() map[string]api.Digest {
	first := New().Words
	return map[string]api.Digest{
		"no rest":                {Words: first, Length: 1},
		"rest of nothing":        {Words: first, Rest: "a"},
		"rest too short":         {Words: first, Length: 66, Rest: "a"},
		"rest too long":          {Words: first, Length: 66, Rest: "abc"},
		"rest is a block":        {Words: first, Length: 64, Rest: full[:64]},
		"rest is all":            {Words: first, Length: 65, Rest: full[:65]},
		"rest of a full one":     {Words: first, Length: api.MaxDigest, Rest: "a"},
		"length below 0":         {Words: first, Length: -1},
		"length below 0, rest":   {Words: first, Length: -1, Rest: full[:63]},
		"length of -64":          {Words: first, Length: -64},
		"length of -63":          {Words: first, Length: -63, Rest: "a"},
		"least length":           {Words: first, Length: math.MinInt},
		"length beyond":          {Words: first, Length: api.MaxDigest + 1, Rest: "a"},
		"length far beyond":      {Words: first, Length: api.MaxDigest + 64},
		"greatest length":        {Words: first, Length: math.MaxInt, Rest: full[:63]},
		"a first word below 0":   {Words: [4]int{-1}},
		"a word below 0":         {Words: [4]int{0, -1, 0, 0}},
		"a third word below 0":   {Words: [4]int{0, 0, math.MinInt32, 0}},
		"a last word below 0":    {Words: [4]int{0, 0, 0, -most32}},
		"a first word beyond":    {Words: [4]int{most32 + 1}},
		"a word beyond":          {Words: [4]int{0, most32 + 1, 0, 0}},
		"a third word beyond":    {Words: [4]int{0, 0, math.MaxInt, 0}},
		"a last word beyond":     {Words: [4]int{0, 0, 0, most32 + 2}},
		"the least of all words": {Words: [4]int{0, math.MinInt, 0, 0}},
	}
}

// P8.3
func TestCheck(t *testing.T) {
	for name, d := range invalid() {
		if e := Check(d); e != api.ErrDigest {
			t.Errorf("%s: error %d", name, e)
		}
	}
	first := New().Words
	for _, d := range []api.Digest{
		New(),
		{},
		{Words: [4]int{most32, most32, most32, most32}},
		{Words: [4]int{0, most32, 1, math.MaxInt32 + 1}, Length: 1, Rest: "\x00"},
		{Words: first, Length: 63, Rest: full[:63]},
		{Words: first, Length: 64},
		{Words: first, Length: 65, Rest: "é"[:1]},
		{Words: first, Length: api.MaxDigest - 1, Rest: full[:63]},
		{Words: first, Length: api.MaxDigest},
	} {
		if e := Check(d); e != api.OK {
			t.Errorf("Check(%v): error %d", d, e)
		}
	}
}

// P8.3: nothing else is told of an invalid digest in progress, however long the octets behind are.
func TestInvalid(t *testing.T) {
	for name, d := range invalid() {
		for _, s := range []string{"", "a", full, over} {
			if more, e := More(d, s); more != (api.Digest{}) || e != api.ErrDigest {
				t.Errorf("%s, More of %d octets: %v, error %d", name, len(s), more, e)
			}
		}
		if sum, e := Done(d); sum != [16]byte{} || e != api.ErrDigest {
			t.Errorf("%s, Done: %x, error %d", name, sum, e)
		}
	}
}

// P8.3
func TestMore(t *testing.T) {
	first := New().Words
	d := added(t, New(), "ab")
	if want := (api.Digest{Words: first, Length: 2, Rest: "ab"}); d != want {
		t.Errorf("More(New(), ab): %v", d)
	}
	whole := added(t, d, "c")
	if want := (api.Digest{Words: first, Length: 3, Rest: "abc"}); whole != want {
		t.Errorf("More of c: %v", whole)
	}
	if sum := is(t)(Done(whole)); Hex(sum) != "900150983cd24fb0d6963f7d28e17f72" {
		t.Errorf("Done of ab and c: %x", sum)
	}
	if sum := is(t)(Done(d)); Hex(sum) != "187ef4436122d1cc2f40dc2b92f0eba0" { // what was added to d is not in d
		t.Errorf("Done of ab: %x", sum)
	}
	if same := added(t, d, ""); same != d {
		t.Errorf("More of nothing: %v", same)
	}
}

// P8.3: octets stand in Rest until there is a full block of them.
func TestMoreBlocks(t *testing.T) {
	for _, x := range []struct {
		pieces []string
		blocks int
		rest   string
	}{
		{[]string{full[:63]}, 0, full[:63]},
		{[]string{full[:64]}, 1, ""},
		{[]string{full[:63], full[63:64]}, 1, ""},
		{[]string{full[:63], full[63:65]}, 1, full[64:65]},
		{[]string{full[:1], full[1:200]}, 3, full[192:200]},
		{[]string{full}, 1024, ""},
	} {
		d := added(t, New(), x.pieces...)
		length := 64*x.blocks + len(x.rest)
		if d.Length != length || d.Rest != x.rest || (d.Words == New().Words) != (x.blocks == 0) {
			t.Errorf("%d octets: %v", length, d)
		}
		if sum := is(t)(Done(d)); sum != md5.Sum([]byte(full[:length])) {
			t.Errorf("%d octets: %x", length, sum)
		}
	}
}

// P8.3
func TestMoreErrors(t *testing.T) {
	for _, x := range []struct {
		s    string
		more string
		e    api.Errno
	}{
		{"", over, api.ErrLong},
		{"", full, api.OK},
		{"a", full, api.ErrLong},
		{"a", full[1:], api.OK},
		{full[1:], "a", api.OK},
		{full[1:], "ab", api.ErrLong},
		{full, "", api.OK},
		{full, "a", api.ErrLong},
		{full, over, api.ErrLong},
		{full[:api.MaxDigest/2], full[:api.MaxDigest/2+1], api.ErrLong},
	} {
		d, e := More(added(t, New(), x.s), x.more)
		if e != x.e || e != api.OK && d != (api.Digest{}) {
			t.Errorf("%d octets behind %d: %v, error %d", len(x.more), len(x.s), d, e)
		}
	}
}
