package octet

import (
	"encoding/binary"
	"math"
	"math/rand"
	"strings"
	"testing"

	"verdigris/api"
)

// drawnOctets returns at most that many octets, of which many are 0 or text octets.
func drawnOctets(r *rand.Rand, most int) string {
	octets := make([]byte, r.Intn(most+1))
	for i := range octets {
		switch r.Intn(4) {
		case 0:
			octets[i] = byte(r.Intn(256))
		case 1:
			octets[i] = byte(' ' + r.Intn(95))
		case 2:
			octets[i] = 'a'
		}
	}
	return string(octets)
}

func drawnText(r *rand.Rand, most int) string {
	octets := make([]byte, r.Intn(most+1))
	for i := range octets {
		octets[i] = byte(' ' + r.Intn(95))
	}
	return string(octets)
}

// must returns the octets of a result that comes without an error.
func must(t *testing.T) func(s string, e api.Errno) string {
	return func(s string, e api.Errno) string {
		t.Helper()
		if e != api.OK {
			t.Fatalf("error %d", e)
		}
		return s
	}
}

// expect compares what is read from a position with the number that has been written there.
func expect(t *testing.T, name, s string, at int, read func(s string, at int) (int, api.Errno), want int) {
	t.Helper()
	if n, e := read(s, at); n != want || e != api.OK {
		t.Fatalf("%s(%q, %d): %d, error %d; want %d", name, s, at, n, e, want)
	}
}

// P7.5: a number of one or two octets that is written is read back.
func TestShortNumbersBack(t *testing.T) {
	is := must(t)
	for n := range 1 << 16 {
		s := is(PutU16(n))
		expect(t, "U16", s, 0, U16, n)
		expect(t, "U8", s, 0, U8, n>>8)
		expect(t, "U8", s, 1, U8, n&255)
		if n < 256 {
			expect(t, "U8", is(PutU8(n)), 0, U8, n)
		}
	}
}

// P7.5: a number of four octets that is written is read back, wherever it stands; its octets are those of the library.
func TestLongNumbersBack(t *testing.T) {
	r, is := rand.New(rand.NewSource(71)), must(t)
	for range 20000 {
		n := int(r.Uint32())
		front, behind := drawnOctets(r, 9), drawnOctets(r, 9)
		s := is(PutU32(n))
		if s != string(binary.BigEndian.AppendUint32(nil, uint32(n))) {
			t.Fatalf("PutU32(%d): %q", n, s)
		}
		expect(t, "U32", front+s+behind, len(front), U32, n)
		signed := n + math.MinInt32
		s = is(PutS32(signed))
		if s != string(binary.BigEndian.AppendUint32(nil, uint32(int32(signed)))) {
			t.Fatalf("PutS32(%d): %q", signed, s)
		}
		expect(t, "S32", front+s+behind, len(front), S32, signed)
	}
}

// P7.5: octets from which a number is read are those of the number.
func TestOctetsBack(t *testing.T) {
	r, is := rand.New(rand.NewSource(72)), must(t)
	for range 5000 {
		s := drawnOctets(r, 12)
		for at := range len(s) {
			for _, x := range []struct {
				name string
				read func(s string, at int) (int, api.Errno)
				put  func(n int) (string, api.Errno)
				size int
			}{{"U8", U8, PutU8, 1}, {"U16", U16, PutU16, 2}, {"U32", U32, PutU32, 4}, {"S32", S32, PutS32, 4}} {
				n, e := x.read(s, at)
				if at+x.size > len(s) {
					if n != 0 || e != api.ErrShort {
						t.Fatalf("%s(%q, %d): %d, error %d", x.name, s, at, n, e)
					}
				} else if e != api.OK || is(x.put(n)) != s[at:at+x.size] {
					t.Fatalf("%s(%q, %d): %d, error %d", x.name, s, at, n, e)
				}
			}
		}
	}
}

// P7.5: a text that is written is read back, wherever its field stands.
func TestTextsBack(t *testing.T) {
	r, is := rand.New(rand.NewSource(73)), must(t)
	for range 5000 {
		text, front, behind := drawnText(r, 20), drawnOctets(r, 9), drawnOctets(r, 9)
		n := len(text) + r.Intn(5)
		field := is(PutText(text, n))
		if len(field) != n || is(Text(front+field+behind, len(front), n)) != text {
			t.Fatalf("PutText(%q, %d): %q", text, n, field)
		}
	}
}

// isField follows the words of the chapter.
func isField(octets []byte) bool {
	ended := false
	for _, octet := range octets {
		switch {
		case octet == 0:
			ended = true
		case ended || octet < 32 || octet > 126:
			return false
		}
	}
	return true
}

// P7.2 and P7.5: of all fields of two octets and of drawn ones of more, just those are read that are written, as their texts.
func TestFieldsBack(t *testing.T) {
	r, is := rand.New(rand.NewSource(74)), must(t)
	fields := make([]string, 0, 1<<16+30000)
	for n := range 1 << 16 {
		fields = append(fields, is(PutU16(n)))
	}
	for range 20000 {
		fields = append(fields, drawnOctets(r, 6), drawnText(r, 4)+drawnOctets(r, 3))
	}
	for _, field := range fields {
		text, e := Text(field, 0, len(field))
		if isField([]byte(field)) {
			if e != api.OK || is(PutText(text, len(field))) != field {
				t.Fatalf("Text(%q): %q, error %d", field, text, e)
			}
		} else if text != "" || e != api.ErrForm {
			t.Fatalf("Text(%q): %q, error %d", field, text, e)
		}
	}
}

// P7.4: each single octet is a text or not.
func TestTextOctets(t *testing.T) {
	for octet := range 256 {
		s, want := string([]byte{'a', byte(octet), 'b'}), api.ErrForm
		if octet >= 32 && octet <= 126 {
			want = api.OK
		}
		if _, e := PutText(s, 3); e != want {
			t.Errorf("PutText(%q, 3): error %d", s, e)
		}
	}
}

// P7.5: a part of a part is a part.
func TestPartOfPart(t *testing.T) {
	is := must(t)
	const s = "a\x00\xffbcé\n"
	for at := range len(s) + 1 {
		for n := range len(s) - at + 1 {
			part := is(Part(s, at, n))
			if part != s[at:at+n] {
				t.Fatalf("Part(%q, %d, %d): %q", s, at, n, part)
			}
			for from := range n + 1 {
				for m := range n - from + 1 {
					if is(Part(part, from, m)) != is(Part(s, at+from, m)) {
						t.Fatalf("Part(%q, %d, %d)", part, from, m)
					}
				}
			}
		}
	}
}

// P7.4 and P7.5: a padded string has the string as its beginning, and the fewest zeros behind it.
func TestPadded(t *testing.T) {
	r, is := rand.New(rand.NewSource(75)), must(t)
	for n := 1; n <= api.MaxPad; n++ {
		for range 60 {
			s := drawnOctets(r, 200)
			padded := is(Pad(s, n))
			zeros, begins := strings.CutPrefix(padded, s)
			if !begins || len(padded)%n != 0 || len(zeros) >= n || strings.Trim(zeros, "\x00") != "" {
				t.Fatalf("Pad(%q, %d): %q", s, n, padded)
			}
			if is(Pad(padded, n)) != padded {
				t.Fatalf("Pad(%q, %d) is not padded", s, n)
			}
		}
	}
}
