package fix

import (
	"math"
	"math/big"
	"slices"
	"testing"

	"tollbooth/api"
)

// edges: numbers at and around each limit of the chapter, and the outermost ones.
func edges() []int {
	l := []int{math.MinInt, math.MinInt + 1, math.MaxInt - 1, math.MaxInt}
	for _, n := range []int{0, 1, 2, 7, api.MaxPosition, api.MaxPrice, api.MaxMoney / api.MaxPrice, api.MaxMoney} {
		for d := -1; d <= 1; d++ {
			l = append(l, n+d, -(n + d))
		}
	}
	slices.Sort(l)
	return slices.Compact(l)
}

func isAmount(n *big.Int) bool {
	return n.CmpAbs(big.NewInt(api.MaxMoney)) <= 0
}

func TestMoney(t *testing.T) {
	for _, c := range []struct {
		n    int
		want bool
	}{
		{0, true}, {1, true}, {-1, true},
		{api.MaxMoney, true}, {-api.MaxMoney, true},
		{api.MaxMoney + 1, false}, {-api.MaxMoney - 1, false},
		{math.MaxInt, false}, {math.MinInt, false},
	} {
		if got := Money(c.n); got != c.want {
			t.Errorf("Money(%d) = %v, want %v", c.n, got, c.want)
		}
	}
}

func TestAdd(t *testing.T) {
	const most = api.MaxMoney
	for _, c := range []struct {
		l    []int
		want int
		e    api.Errno
	}{
		{nil, 0, api.OK},
		{[]int{}, 0, api.OK},
		{[]int{5}, 5, api.OK},
		{[]int{1, 2, -5}, -2, api.OK},
		{[]int{most}, most, api.OK},
		{[]int{-most}, -most, api.OK},
		{[]int{most, -most, -most}, -most, api.OK},
		{[]int{most - 1, 1}, most, api.OK},
		{[]int{most + 1}, 0, api.ErrRange},
		{[]int{-most - 1}, 0, api.ErrRange},
		{[]int{math.MaxInt, math.MaxInt}, 0, api.ErrRange},
		{[]int{1, math.MinInt}, 0, api.ErrRange},
		{[]int{most, 1}, 0, api.ErrFull},
		{[]int{-most, -1}, 0, api.ErrFull},
		{[]int{most, most}, 0, api.ErrFull},
		// The sum of all would be an amount, but the one so far isn't.
		{[]int{most, 1, -1}, 0, api.ErrFull},
		// Of several errors, that of the first number that has one.
		{[]int{most, 1, most + 1}, 0, api.ErrFull},
		{[]int{most + 1, most, most}, 0, api.ErrRange},
		// The number itself is looked at ahead of the sum with it.
		{[]int{most, most + 1}, 0, api.ErrRange},
	} {
		if got, e := Add(c.l...); got != c.want || e != c.e {
			t.Errorf("Add(%v) = %d, %d, want %d, %d", c.l, got, e, c.want, c.e)
		}
	}
	if got, e := Add(); got != 0 || e != api.OK {
		t.Errorf("Add() = %d, %d, want 0, 0", got, e)
	}
}

func TestAddOnlyReads(t *testing.T) {
	room := []int{1, 2, 3, 4, 5}
	kept := slices.Clone(room)
	if got, e := Add(room[1:3]...); got != 5 || e != api.OK {
		t.Errorf("Add(2, 3) = %d, %d, want 5, 0", got, e)
	}
	if !slices.Equal(room, kept) {
		t.Errorf("Add changed what it was handed: %v, was %v", room, kept)
	}
}

func TestMiddle(t *testing.T) {
	for _, a := range edges() {
		for _, b := range edges() {
			for _, c := range edges() {
				l := []int{a, b, c}
				slices.Sort(l)
				if got := Middle(a, b, c); got != l[1] {
					t.Fatalf("Middle(%d, %d, %d) = %d, want %d", a, b, c, got, l[1])
				}
			}
		}
	}
}

func TestPart(t *testing.T) {
	const most = api.MaxMoney
	for _, c := range []struct {
		n, a, b int
		up      bool
		want    int
		e       api.Errno
	}{
		{7, 1, 2, true, 4, api.OK},
		{7, 1, 2, false, 3, api.OK},
		{-7, 1, 2, true, -3, api.OK},
		{-7, 1, 2, false, -4, api.OK},
		{7, -1, 2, true, -3, api.OK},
		{7, -1, 2, false, -4, api.OK},
		{-7, -1, 2, true, 4, api.OK},
		{-7, -1, 2, false, 3, api.OK},
		{8, 3, 4, true, 6, api.OK},
		{-8, 3, 4, false, -6, api.OK},
		{0, 5, 3, true, 0, api.OK},
		{5, 0, 3, false, 0, api.OK},
		// Less than 1 on either side of 0.
		{1, 1, api.MaxPrice, true, 1, api.OK},
		{1, 1, api.MaxPrice, false, 0, api.OK},
		{-1, 1, api.MaxPrice, true, 0, api.OK},
		{-1, 1, api.MaxPrice, false, -1, api.OK},
		{most, api.MaxPrice, api.MaxPrice, true, most, api.OK},
		{most, -api.MaxPrice, api.MaxPrice, false, -most, api.OK},
		{most, 2, 1, true, 0, api.ErrFull},
		{-most, 2, 1, false, 0, api.ErrFull},
		{most, api.MaxPrice, api.MaxPrice - 1, true, 0, api.ErrFull},
		{most, api.MaxPrice, 1, true, 0, api.ErrFull},
		{most + 1, 1, 1, true, 0, api.ErrRange},
		{-most - 1, 0, 1, true, 0, api.ErrRange},
		{1, api.MaxPrice + 1, 1, true, 0, api.ErrRange},
		{1, -api.MaxPrice - 1, 1, true, 0, api.ErrRange},
		{1, 1, 0, true, 0, api.ErrRange},
		{1, 1, -1, true, 0, api.ErrRange},
		{1, 1, api.MaxPrice + 1, true, 0, api.ErrRange},
		// No amount would come of it, but b may not be, which is told first.
		{most, 2, 0, true, 0, api.ErrRange},
		{math.MinInt, -1, 1, false, 0, api.ErrRange},
		{1, math.MinInt, 1, false, 0, api.ErrRange},
		{1, 1, math.MinInt, false, 0, api.ErrRange},
	} {
		if got, e := Part(c.n, c.a, c.b, c.up); got != c.want || e != c.e {
			t.Errorf("Part(%d, %d, %d, %v) = %d, %d, want %d, %d", c.n, c.a, c.b, c.up, got, e, c.want, c.e)
		}
	}
}

// wantPart says by numbers of any size what Part must answer.
func wantPart(n, a, b int, up bool) (int, api.Errno) {
	if !isAmount(big.NewInt(int64(n))) || a < -api.MaxPrice || a > api.MaxPrice || b < 1 || b > api.MaxPrice {
		return 0, api.ErrRange
	}
	product := new(big.Int).Mul(big.NewInt(int64(n)), big.NewInt(int64(a)))
	// Div of a divisor above 0 rounds down.
	q, left := new(big.Int).DivMod(product, big.NewInt(int64(b)), new(big.Int))
	if up && left.Sign() != 0 {
		q.Add(q, big.NewInt(1))
	}
	if !isAmount(q) {
		return 0, api.ErrFull
	}
	return int(q.Int64()), api.OK
}

func TestPartAtEdges(t *testing.T) {
	for _, n := range edges() {
		for _, a := range edges() {
			for _, b := range edges() {
				for _, up := range []bool{false, true} {
					got, e := Part(n, a, b, up)
					if want, we := wantPart(n, a, b, up); got != want || e != we {
						t.Fatalf("Part(%d, %d, %d, %v) = %d, %d, want %d, %d", n, a, b, up, got, e, want, we)
					}
				}
			}
		}
	}
}

func TestPartOfSmallNumbers(t *testing.T) {
	for n := -12; n <= 12; n++ {
		for a := -12; a <= 12; a++ {
			for b := -1; b <= 12; b++ {
				for _, up := range []bool{false, true} {
					got, e := Part(n, a, b, up)
					if want, we := wantPart(n, a, b, up); got != want || e != we {
						t.Fatalf("Part(%d, %d, %d, %v) = %d, %d, want %d, %d", n, a, b, up, got, e, want, we)
					}
				}
			}
		}
	}
}

func TestWorth(t *testing.T) {
	for _, c := range []struct {
		qty, price int
		want       int
		e          api.Errno
	}{
		{3, 5, 15, api.OK},
		{-3, 5, -15, api.OK},
		{0, 5, 0, api.OK},
		{5, 0, 0, api.OK},
		{-5, 0, 0, api.OK},
		{api.MaxPosition, api.MaxPrice, api.MaxPosition * api.MaxPrice, api.OK},
		{-api.MaxPosition, api.MaxPrice, -api.MaxPosition * api.MaxPrice, api.OK},
		{api.MaxPosition + 1, 1, 0, api.ErrRange},
		{-api.MaxPosition - 1, 1, 0, api.ErrRange},
		{1, -1, 0, api.ErrRange},
		{1, api.MaxPrice + 1, 0, api.ErrRange},
		{0, -1, 0, api.ErrRange},
		{math.MinInt, 1, 0, api.ErrRange},
		{math.MaxInt, math.MaxInt, 0, api.ErrRange},
		{1, math.MinInt, 0, api.ErrRange},
	} {
		if got, e := Worth(c.qty, c.price); got != c.want || e != c.e {
			t.Errorf("Worth(%d, %d) = %d, %d, want %d, %d", c.qty, c.price, got, e, c.want, c.e)
		}
	}
}
