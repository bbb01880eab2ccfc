package digest

import (
	"strings"

	"verdigris/api"
)

const (
	blockSize  = 64 // octets of a block
	lengthSize = 8  // octets of the number of bits, which end the last block
)

// progress is a digest in progress, with which one computes.
type progress struct {
	words
	length int
	rest   string
}

// begin returns the digest in progress of no octets.
func begin() progress {
	return progress{words: words{0x67452301, 0xefcdab89, 0x98badcfe, 0x10325476}}
}

// resume returns the digest in progress that d describes, or ErrDigest if d is not valid. A number that 32 bits do not hold is not the same one after the conversion to them and back.
func resume(d api.Digest) (progress, api.Errno) {
	p := progress{wordsOf(d.Words), d.Length, d.Rest}
	if p.numbers() != d.Words || d.Length < 0 || d.Length > api.MaxDigest || len(d.Rest) != d.Length%blockSize {
		return progress{}, api.ErrDigest
	}
	return p, api.OK
}

func (p progress) digest() api.Digest {
	return api.Digest{Words: p.numbers(), Length: p.length, Rest: p.rest}
}

// more returns the digest in progress with the octets of s behind.
func (p progress) more(s string) progress {
	p.length += len(s)
	p.rest = each(p.rest+s, p.change)
	return p
}

// done returns the digest of the octets so far.
func (p progress) done() [16]byte {
	return p.more(p.ending()).octets()
}

// ending returns the octets that fill the last block: an octet 128, zeros, and the number of bits.
func (p progress) ending() string {
	zeros := (2*blockSize - lengthSize - 1 - len(p.rest)) % blockSize
	octets := []byte("\x80" + strings.Repeat("\x00", zeros))
	return string(appendLittle(octets, 8*p.length, lengthSize))
}

// appendLittle appends the last octets of a number, the least significant one first.
func appendLittle(octets []byte, n, size int) []byte {
	for i := range size {
		octets = append(octets, byte(n>>(8*i)))
	}
	return octets
}
