package number

// Power returns the n-th power, which is 1 for n 0; n is not negative.
func (m Magnitude) Power(n int) Magnitude {
	times := m.Product
	power := fromWord(1)
	for range n {
		power = times(power)
	}
	return power
}

// Root returns the greatest number whose k-th power is at most the number; k is at least 1.
//
// Newton's method, begun at or above the root, falls until it has the root.
func (m Magnitude) Root(k int) Magnitude {
	if m.IsZero() {
		return m
	}
	root := m.aboveRoot(k)
	for {
		next := m.nextRoot(root, k)
		if next.Compare(root) >= 0 {
			return root
		}
		root = next
	}
}

// aboveRoot returns a power of 2 whose k-th power is greater than the number.
func (m Magnitude) aboveRoot(k int) Magnitude {
	exponent := (m.length() + k - 1) / k
	power := make(Magnitude, exponent/wordBits+1)
	power[exponent/wordBits] = 1 << (exponent % wordBits)
	return power
}

// nextRoot returns the mean of k - 1 times the root and of the number divided by the power below, rounded down.
func (m Magnitude) nextRoot(root Magnitude, k int) Magnitude {
	share, _ := m.Divide(root.Power(k - 1))
	sum := root.Product(fromWord(uint64(k - 1))).Sum(share)
	next, _ := sum.divideByWord(uint64(k))
	return next
}
