package octet

import (
	"math"

	"verdigris/api"
)

// widest is the number of octets of the widest numbers.
const widest = 4

// kind tells how numbers are written: in how many octets, and whether they have a sign.
type kind struct {
	size   int
	signed bool
}

// scope is the range of the numbers of a kind.
type scope struct {
	kind
	holds func(n int) bool
}

func scopes() [4]scope {
	return [4]scope{
		{kind{1, false}, between(0, math.MaxUint8)},
		{kind{2, false}, between(0, math.MaxUint16)},
		{kind{4, false}, between(0, math.MaxUint32)},
		{kind{4, true}, between(math.MinInt32, math.MaxInt32)},
	}
}

func between(least, most int) func(n int) bool {
	return func(n int) bool { return least <= n && n <= most }
}

// read returns the number of type N whose octets begin at a position.
func read[N uint8 | uint16 | uint32 | int32](s string, at, size int) (int, api.Errno) {
	part, e := Part(s, at, size)
	if e != api.OK {
		return 0, e
	}
	var octets [widest]byte
	copy(octets[widest-size:], part)
	return gather[N](octets), api.OK
}

// gather returns the number of type N that has these octets, in front of which there are zeros. The conversion to N gives it its sign.
func gather[N uint8 | uint16 | uint32 | int32](octets [widest]byte) int {
	n := 0
	for _, octet := range octets {
		n = n<<8 | int(octet)
	}
	return int(N(n))
}

// write returns the octets of a number, or ErrArg if it is none of its kind.
func write(n int, k kind) (string, api.Errno) {
	for _, s := range scopes() {
		if s.kind == k && s.holds(n) {
			return spread(n, k.size), api.OK
		}
	}
	return "", api.ErrArg
}

// spread returns the last octets of a number.
func spread(n, size int) string {
	octets := make([]byte, size)
	for i := range octets {
		octets[size-1-i] = byte(n >> (8 * i))
	}
	return string(octets)
}
