package digest

import (
	"crypto/md5"
	"encoding"
	"encoding/binary"
	"math/rand"
	"testing"

	"verdigris/api"
)

func drawn(r *rand.Rand, length int) string {
	octets := make([]byte, length)
	r.Read(octets)
	return string(octets)
}

// P8.1: sums agree with those of the library.
func TestAgainstLibrary(t *testing.T) {
	r, is := rand.New(rand.NewSource(81)), is(t)
	for n := range 2000 {
		s := drawn(r, n%500+n/500*r.Intn(3000))
		if sum := is(Sum(s)); sum != md5.Sum([]byte(s)) {
			t.Fatalf("Sum(%q): %x", s, sum)
		}
	}
}

// libraryDone returns what the library says of a digest in progress.
func libraryDone(t *testing.T, d api.Digest) [16]byte {
	t.Helper()
	state := []byte("md5\x01")
	for _, n := range d.Words {
		state = binary.BigEndian.AppendUint32(state, uint32(n))
	}
	state = append(state, d.Rest...)
	state = append(state, make([]byte, 64-len(d.Rest))...)
	state = binary.BigEndian.AppendUint64(state, uint64(d.Length))
	h := md5.New()
	if err := h.(encoding.BinaryUnmarshaler).UnmarshalBinary(state); err != nil {
		t.Fatal(err)
	}
	return [16]byte(h.Sum(nil))
}

// P8.3: every valid digest in progress has a digest, whether octets lead to its numbers or not.
func TestAnyWords(t *testing.T) {
	r, is := rand.New(rand.NewSource(82)), is(t)
	for range 5000 {
		var d api.Digest
		for i := range d.Words {
			d.Words[i] = []int{0, most32, int(r.Uint32()), int(r.Uint32())}[r.Intn(4)]
		}
		d.Length = r.Intn(api.MaxDigest/2 + 1)
		d.Rest = drawn(r, d.Length%64)
		if sum := is(Done(d)); sum != libraryDone(t, d) {
			t.Fatalf("Done(%v): %x", d, sum)
		}
		more := added(t, d, drawn(r, r.Intn(300)))
		if sum := is(Done(more)); sum != libraryDone(t, more) {
			t.Fatalf("Done(%v), behind %v: %x", more, d, sum)
		}
	}
}

// P8.4: two pieces, wherever they are cut, lead to the same digest in progress as all together.
func TestCut(t *testing.T) {
	r, is := rand.New(rand.NewSource(83)), is(t)
	s := drawn(r, 200)
	all := added(t, New(), s)
	if is(Done(all)) != is(Sum(s)) {
		t.Fatalf("Done of %q", s)
	}
	for at := range len(s) + 1 {
		if d := added(t, New(), s[:at], s[at:]); d != all {
			t.Fatalf("cut at %d: %v", at, d)
		}
	}
}

// P8.4: the same of many pieces, some of which are empty.
func TestPieces(t *testing.T) {
	r, is := rand.New(rand.NewSource(84)), is(t)
	for range 300 {
		s := drawn(r, r.Intn(2000))
		d := New()
		for rest := s; rest != ""; {
			n := min(len(rest), r.Intn([]int{3, 70, 300}[r.Intn(3)]))
			d, rest = added(t, d, rest[:n]), rest[n:]
		}
		if d != added(t, New(), s) || is(Done(d)) != is(Sum(s)) {
			t.Fatalf("pieces of %q: %v", s, d)
		}
	}
}

// P8.4: the octets of a digest are numbers with which one goes on, behind the octets and what stands behind them in the last block.
func TestGoOn(t *testing.T) {
	r, is := rand.New(rand.NewSource(85)), is(t)
	for n := range 300 {
		s, more := drawn(r, n), drawn(r, r.Intn(200))
		behind := []byte{128}
		for (n+len(behind))%64 != 56 {
			behind = append(behind, 0)
		}
		padded := s + string(binary.LittleEndian.AppendUint64(behind, uint64(8*n)))
		sum := is(Sum(s))
		d := api.Digest{Length: len(padded)}
		for i := range d.Words {
			d.Words[i] = int(binary.LittleEndian.Uint32(sum[4*i:]))
		}
		if d != added(t, New(), padded) {
			t.Fatalf("digest in progress of %q: %v", padded, d)
		}
		if is(Done(added(t, d, more))) != is(Sum(padded+more)) {
			t.Fatalf("%q behind %q", more, padded)
		}
	}
}

// P8.4: Unhex inverts Hex.
func TestUnhexInverts(t *testing.T) {
	r, is := rand.New(rand.NewSource(86)), is(t)
	for range 2000 {
		sum := [16]byte([]byte(drawn(r, 16)))
		text := Hex(sum)
		if len(text) != 32 || is(Unhex(text)) != sum {
			t.Fatalf("Hex(%v): %q", sum, text)
		}
	}
}
