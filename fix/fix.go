// Package fix: checked arithmetic, see doc/01-fix.md.
package fix

import "tollbooth/api"

// Money: is n an amount?
func Money(n int) bool { return within(n, -api.MaxMoney, api.MaxMoney) }

// Add answers the sum of l. Each sum on the way must be an amount, too, so the order counts.
func Add(l ...int) (int, api.Errno) {
	sum := 0
	for _, n := range l {
		if !Money(n) {
			return 0, api.ErrRange
		}
		// Both are amounts here, so this can't wrap round.
		sum += n
		if !Money(sum) {
			return 0, api.ErrFull
		}
	}
	return sum, api.OK
}

// Middle answers the second of the three, by size.
func Middle(a, b, c int) int {
	return max(min(a, b), min(max(a, b), c))
}

// Part answers n times a, divided by b, rounded up or down (not towards 0).
func Part(n, a, b int, up bool) (int, api.Errno) {
	if !Money(n) || !within(a, -api.MaxPrice, api.MaxPrice) || !within(b, 1, api.MaxPrice) {
		return 0, api.ErrRange
	}
	// The limits keep the product within 10^16, so it can't wrap round.
	q := divide(n*a, b, up)
	if !Money(q) {
		return 0, api.ErrFull
	}
	return q, api.OK
}

// Worth answers qty times price. The limits keep it an amount.
func Worth(qty, price int) (int, api.Errno) {
	if !within(qty, -api.MaxPosition, api.MaxPosition) || !within(price, 0, api.MaxPrice) {
		return 0, api.ErrRange
	}
	return qty * price, api.OK
}

func within(n, low, high int) bool { return low <= n && n <= high }

// divide answers n divided by b, which is above 0. Go's division cuts towards 0, so that what is left over
// has n's sign, and tells on which side of the exact value the quotient is.
func divide(n, b int, up bool) int {
	q, left := n/b, n%b
	switch {
	case up && left > 0:
		return q + 1
	case !up && left < 0:
		return q - 1
	}
	return q
}
