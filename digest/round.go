package digest

// roundSteps is the number of steps of a round.
const roundSteps = 16

// constants are those of the steps.
var constants = [64]uint32{
	0xd76aa478, 0xe8c7b756, 0x242070db, 0xc1bdceee, 0xf57c0faf, 0x4787c62a, 0xa8304613, 0xfd469501,
	0x698098d8, 0x8b44f7af, 0xffff5bb1, 0x895cd7be, 0x6b901122, 0xfd987193, 0xa679438e, 0x49b40821,
	0xf61e2562, 0xc040b340, 0x265e5a51, 0xe9b6c7aa, 0xd62f105d, 0x02441453, 0xd8a1e681, 0xe7d3fbc8,
	0x21e1cde6, 0xc33707d6, 0xf4d50d87, 0x455a14ed, 0xa9e3e905, 0xfcefa3f8, 0x676f02d9, 0x8d2a4c8a,
	0xfffa3942, 0x8771f681, 0x6d9d6122, 0xfde5380c, 0xa4beea44, 0x4bdecfa9, 0xf6bb4b60, 0xbebfbc70,
	0x289b7ec6, 0xeaa127fa, 0xd4ef3085, 0x04881d05, 0xd9d4d039, 0xe6db99e5, 0x1fa27cf8, 0xc4ac5665,
	0xf4292244, 0x432aff97, 0xab9423a7, 0xfc93a039, 0x655b59c3, 0x8f0ccc92, 0xffeff47d, 0x85845dd1,
	0x6fa87e4f, 0xfe2ce6e0, 0xa3014314, 0x4e0811a1, 0xf7537e82, 0xbd3af235, 0x2ad7d2bb, 0xeb86d391,
}

// round tells how the steps of a round are done: how three of the numbers are mixed, which word of the block a step adds, and the rotations, which repeat.
type round struct {
	mix       func(b, c, d uint32) uint32
	word      func(i int) int
	rotations [4]int
}

func rounds() [4]round {
	return [4]round{
		{func(b, c, d uint32) uint32 { return choose(b, c, d) }, along(1, 0), [4]int{7, 12, 17, 22}},
		{func(b, c, d uint32) uint32 { return choose(d, b, c) }, along(5, 1), [4]int{5, 9, 14, 20}},
		{func(b, c, d uint32) uint32 { return b ^ c ^ d }, along(3, 5), [4]int{4, 11, 16, 23}},
		{func(b, c, d uint32) uint32 { return c ^ (b | ^d) }, along(7, 0), [4]int{6, 10, 15, 21}},
	}
}

// choose returns the bits of one where those of by are 1, and the bits of other where they are 0.
func choose(by, one, other uint32) uint32 {
	return by&one | ^by&other
}

// along returns the function that goes through the words of a block by steps of this size from this one on.
func along(times, from int) func(i int) int {
	return func(i int) int { return (times*i + from) % len(block{}) }
}
