package band

import "verdigris/api"

// The groups of operations on two ends.
const (
	sums = 1 + iota
	products
)

// kind tells an operation: that of a group, or the one that takes it back.
type kind struct {
	group int
	back  bool
}

// operation leads from two ends to a number. As one end moves and the other one stays, the number only rises or only falls.
type operation struct {
	kind
	number func(x, y int) exact
}

// operations returns the table of all of them. The second end of a quotient is not 0.
func operations() [4]operation {
	return [4]operation{
		{kind{sums, false}, func(x, y int) exact { return exact{x + y, 1, 1} }},
		{kind{sums, true}, func(x, y int) exact { return exact{x - y, 1, 1} }},
		{kind{products, false}, func(x, y int) exact { return exact{x, y, api.OneBand} }},
		{kind{products, true}, over},
	}
}

func over(x, y int) exact {
	if y < 0 {
		x, y = -x, -y
	}
	return exact{x, api.OneBand, y}
}

// combine returns the tightest band of the results of an operation, all of which lie between those of the four pairs of ends.
func combine(k kind, a, b api.Band) (api.Band, api.Errno) {
	pairs, e := checked([4][2]int{{a.Lo, b.Lo}, {a.Lo, b.Hi}, {a.Hi, b.Lo}, {a.Hi, b.Hi}}, a, b)
	if e != api.OK {
		return api.Band{}, e
	}
	var results [4]exact
	for _, o := range operations() {
		if o.kind != k {
			continue
		}
		for i, p := range pairs {
			results[i] = o.number(p[0], p[1])
		}
	}
	return tightest(results[:]...)
}
