package account

import (
	"math"
	"math/big"
	"math/rand"
	"slices"
	"testing"

	"tollbooth/api"
)

const (
	most     = api.MaxMoney
	greatest = api.MaxPosition
)

func of(id, balance int, pos ...int) api.Account {
	return api.Account{ID: id, Balance: balance, Pos: pos}
}

// some is long in its first market, short in the second one.
func some() api.Account { return of(3, 500, 10, -4) }

// roomy answers a with spare room behind its positions, and that memory, whole.
func roomy(a api.Account) (api.Account, []int) {
	room := append(slices.Clone(a.Pos), 77, 78, 79)
	a.Pos = room[:len(a.Pos)]
	return a, room
}

// plain is exact arithmetic, so that no limit of the machine's own numbers can hide in it.
func plain(n int) *big.Int { return big.NewInt(int64(n)) }

func isAmount(n *big.Int) bool { return n.CmpAbs(plain(most)) <= 0 }

func isAmong(n, low, high int) bool { return low <= n && n <= high }

func TestCheck(t *testing.T) {
	for _, c := range []struct {
		name    string
		a       api.Account
		markets int
		want    api.Errno
	}{
		{"one market", of(0, 0, 0), 1, api.OK},
		{"as many markets as there may be", some(), api.MaxMarkets, api.OK},
		{"the last ID", of(api.MaxAccounts-1, 0, 0), 1, api.OK},
		{"the greatest", of(0, most, greatest, greatest), 2, api.OK},
		{"the least", of(0, -most, -greatest, -greatest), 2, api.OK},
		{"an ID below 0", of(-1, 0, 0), 1, api.ErrWho},
		{"an ID too great", of(api.MaxAccounts, 0, 0), 1, api.ErrWho},
		{"the greatest int as ID", of(math.MaxInt, 0, 0), 1, api.ErrWho},
		{"the least int as ID", of(math.MinInt, 0, 0), 1, api.ErrWho},
		{"no market", of(0, 0), 0, api.ErrForm},
		{"no market, an empty list", api.Account{Pos: []int{}}, 0, api.ErrForm},
		{"one market too many", of(0, 0, 0, 0, 0), api.MaxMarkets + 1, api.ErrForm},
		{"markets below 0", of(0, 0, 0), -1, api.ErrForm},
		{"the least int of markets", of(0, 0), math.MinInt, api.ErrForm},
		{"the greatest int of markets", of(0, 0, 0), math.MaxInt, api.ErrForm},
		{"a position too few", of(0, 0, 0), 2, api.ErrForm},
		{"a position too many", of(0, 0, 0, 0), 1, api.ErrForm},
		{"no positions", of(0, 0), 1, api.ErrForm},
		{"a Balance above", of(0, most+1, 0), 1, api.ErrRange},
		{"a Balance below", of(0, -most-1, 0), 1, api.ErrRange},
		{"the least int as Balance", of(0, math.MinInt, 0), 1, api.ErrRange},
		{"a position above", of(0, 0, greatest+1), 1, api.ErrRange},
		{"a position below", of(0, 0, -greatest-1), 1, api.ErrRange},
		{"the last position above", of(0, 0, 0, greatest+1), 2, api.ErrRange},
		{"the first position below", of(0, 0, -greatest-1, 0), 2, api.ErrRange},
		{"the least int as position", of(0, 0, 0, math.MinInt), 2, api.ErrRange},
		{"who ahead of form", of(-1, 0), 0, api.ErrWho},
		{"who ahead of range", of(8, most+1, 0), 1, api.ErrWho},
		{"form ahead of range", of(0, most+1, greatest+1), 2, api.ErrForm},
		{"all of them", of(8, most+1, greatest+1), 0, api.ErrWho},
	} {
		if got := Check(c.a, c.markets); got != c.want {
			t.Errorf("%s: Check(%v, %d) = %d, want %d", c.name, c.a, c.markets, got, c.want)
		}
	}
}

func TestSame(t *testing.T) {
	for _, c := range []struct {
		a, b api.Account
		want bool
	}{
		{some(), some(), true},
		{api.Account{}, api.Account{}, true},
		{api.Account{Pos: []int{}}, api.Account{}, true},
		{some(), of(4, 500, 10, -4), false},
		{some(), of(3, 501, 10, -4), false},
		{some(), of(3, 500, 11, -4), false},
		{some(), of(3, 500, 10, -5), false},
		{some(), of(3, 500, -4, 10), false},
		{some(), of(3, 500, 10), false},
		{some(), of(3, 500, 10, -4, 0), false},
		{of(0, 0, 0), of(0, 0), false},
		// Whatever they are: those that may not be, too.
		{of(-9, most+1, math.MinInt, 2, 3), of(-9, most+1, math.MinInt, 2, 3), true},
		{of(-9, most+1, math.MinInt, 2, 3), of(-9, most+1, math.MinInt, 2, 4), false},
		{of(-9, math.MinInt), of(-9, math.MaxInt), false},
	} {
		if got := Same(c.a, c.b); got != c.want {
			t.Errorf("Same(%v, %v) = %v, want %v", c.a, c.b, got, c.want)
		}
		if got := Same(c.b, c.a); got != c.want {
			t.Errorf("Same(%v, %v) = %v, want %v", c.b, c.a, got, c.want)
		}
	}
}

type tradeCase struct {
	name                    string
	a                       api.Account
	market, qty, price, fee int
	want                    api.Account
	e                       api.Errno
}

func runTrades(t *testing.T, l []tradeCase) {
	t.Helper()
	for _, c := range l {
		got, e := Trade(c.a, c.market, c.qty, c.price, c.fee)
		if !Same(got, c.want) || e != c.e {
			t.Errorf("%s: %v, %d, want %v, %d", c.name, got, e, c.want, c.e)
		}
	}
}

func TestTrade(t *testing.T) {
	runTrades(t, []tradeCase{
		{"buys", some(), 0, 5, 100, 3, of(3, -3, 15, -4), api.OK},
		{"sells", some(), 0, -5, 100, 3, of(3, 997, 5, -4), api.OK},
		{"in the second market", some(), 1, 6, 10, 1, of(3, 439, 10, 2), api.OK},
		{"turns round", some(), 0, -20, 10, 0, of(3, 700, -10, -4), api.OK},
		{"nothing", some(), 0, 0, 100, 0, some(), api.OK},
		{"nothing, with a fee", some(), 0, 0, 100, 7, of(3, 493, 10, -4), api.OK},
		{"for nothing", some(), 0, 5, 0, 0, of(3, 500, 15, -4), api.OK},
		{"is paid for it", some(), 0, 5, 100, -7, of(3, 7, 15, -4), api.OK},
		{"one market", of(0, 0, 0), 0, 1, 1, 1, of(0, -2, 1), api.OK},
		{"the greatest position", of(0, 0, greatest-1), 0, 1, 1, 0, of(0, -1, greatest), api.OK},
		{"the least position", of(0, 0, 1-greatest), 0, -1, 1, 0, of(0, 1, -greatest), api.OK},
		{"from end to end", of(0, 0, -greatest, 0), 0, greatest, api.MaxPrice, 0, of(0, -greatest*api.MaxPrice, 0, 0), api.OK},
		{"all that may be paid", of(0, most, 0), 0, 0, 0, most, of(0, 0, 0), api.OK},
		{"all that may be got", of(0, 0, 0), 0, 0, 0, -most, of(0, most, 0), api.OK},
		{"to the least Balance", of(0, 3-most, 0), 0, 1, 2, 1, of(0, -most, 1), api.OK},
		{"to the greatest Balance", of(0, most-3, 0), 0, -1, 2, -1, of(0, most, -1), api.OK},
	})
}

func TestTradeErrors(t *testing.T) {
	no := api.Account{}
	runTrades(t, []tradeCase{
		{"nobody", of(-1, 0, 0), 0, 1, 1, 0, no, api.ErrWho},
		{"no market at all", of(0, 0), 0, 1, 1, 0, no, api.ErrForm},
		{"too many markets", of(0, 0, 0, 0, 0), 0, 1, 1, 0, no, api.ErrForm},
		{"no Balance", of(0, most+1, 0), 0, 1, 1, 0, no, api.ErrRange},
		{"no position", of(0, 0, 0, greatest+1), 0, 1, 1, 0, no, api.ErrRange},
		{"a market below", some(), -1, 1, 1, 0, no, api.ErrWho},
		{"a market above", some(), 2, 1, 1, 0, no, api.ErrWho},
		{"the second of one", of(0, 0, 0), 1, 1, 1, 0, no, api.ErrWho},
		{"the least int as market", some(), math.MinInt, 1, 1, 0, no, api.ErrWho},
		{"the greatest int as market", some(), math.MaxInt, 1, 1, 0, no, api.ErrWho},
		{"too much", of(0, 0, -1), 0, greatest + 1, 1, 0, no, api.ErrRange},
		{"too little", of(0, 0, 1), 0, -greatest - 1, 1, 0, no, api.ErrRange},
		{"the greatest int", of(0, 0, 1), 0, math.MaxInt, 1, 0, no, api.ErrRange},
		{"the least int", of(0, 0, -1), 0, math.MinInt, 1, 0, no, api.ErrRange},
		{"a price below 0", some(), 0, 1, -1, 0, no, api.ErrRange},
		{"a price too great", some(), 0, 1, api.MaxPrice + 1, 0, no, api.ErrRange},
		{"a fee above", some(), 0, 1, 1, most + 1, no, api.ErrRange},
		{"a fee below", some(), 0, 1, 1, -most - 1, no, api.ErrRange},
		{"the least int as fee", some(), 0, 1, 1, math.MinInt, no, api.ErrRange},
		{"the greatest int as fee", some(), 0, 1, 1, math.MaxInt, no, api.ErrRange},
		{"below the least Balance", of(0, 1-most, 0), 0, 1, 2, 0, no, api.ErrFull},
		{"above the greatest Balance", of(0, most-1, 0), 0, -1, 2, 0, no, api.ErrFull},
		{"below it by the fee", of(0, 1-most, 0), 0, 1, 1, 1, no, api.ErrFull},
		{"above it by the fee", of(0, most-1, 0), 0, -1, 1, -1, no, api.ErrFull},
		{"below it on the way", of(0, -most, 0), 0, 1, 1, -1, no, api.ErrFull},
		{"above it on the way", of(0, most, 0), 0, -1, 1, 1, no, api.ErrFull},
		{"one too long", of(0, 0, greatest), 0, 1, 1, 0, no, api.ErrFull},
		{"one too short", of(0, 0, 0, -greatest), 1, -1, 1, 0, no, api.ErrFull},
		{"twice the greatest", of(0, 0, greatest), 0, greatest, 1, 0, no, api.ErrFull},
	})
}

func TestTradeErrorsInOrder(t *testing.T) {
	no := api.Account{}
	runTrades(t, []tradeCase{
		{"the account ahead of the market", of(0, most+1, 0), 1, 1, 1, 0, no, api.ErrRange},
		{"its form ahead of the market", of(0, 0), 0, 1, 1, 0, no, api.ErrForm},
		{"the market ahead of the price", some(), 2, 1, -1, 0, no, api.ErrWho},
		{"the market ahead of the fee", some(), 2, 1, 1, most + 1, no, api.ErrWho},
		{"the quantity ahead of the sum", of(0, -most, 0), 0, greatest + 1, 1, 0, no, api.ErrRange},
		{"the price ahead of the position", of(0, 0, greatest), 0, 1, -1, 0, no, api.ErrRange},
		{"the cost ahead of the fee", of(0, -most, 0), 0, 1, 1, most + 1, no, api.ErrFull},
		{"the fee itself ahead of the sum with it", of(0, -most, 0), 0, 0, 1, most + 1, no, api.ErrRange},
		{"the fee ahead of the position", of(0, 0, greatest), 0, 1, 1, most + 1, no, api.ErrRange},
	})
}

func TestTradeMemory(t *testing.T) {
	a, room := roomy(some())
	kept := slices.Clone(room)
	got, e := Trade(a, 1, 6, 10, 1)
	if e != api.OK || !Same(a, some()) || !slices.Equal(room, kept) {
		t.Errorf("Trade changed what it was handed: %v, %v, %d", a, room, e)
	}
	got.Pos[0] = 55
	_ = append(got.Pos, 56)
	if !slices.Equal(room, kept) {
		t.Errorf("Trade answers memory that it was handed: %v", room)
	}
	again, e := Trade(a, 1, 6, 10, 1)
	if want := of(3, 439, 10, 2); e != api.OK || !Same(again, want) {
		t.Errorf("the second time: %v, %d, want %v", again, e, want)
	}
	if got, e := Trade(a, 1, -greatest, 10, 1); e != api.ErrFull || got.Pos != nil || !slices.Equal(room, kept) {
		t.Errorf("a trade that fails: %v, %d, and %v", got, e, room)
	}
}

// edges: numbers at and around each limit that is named, and the outermost ones.
func edges() []int {
	l := []int{math.MinInt, math.MinInt + 1, math.MaxInt - 1, math.MaxInt}
	for _, n := range []int{0, 1, 7, greatest, api.MaxPrice, most} {
		for d := -1; d <= 1; d++ {
			l = append(l, n+d, -(n + d))
		}
	}
	slices.Sort(l)
	return slices.Compact(l)
}

// plainTrade tells what comes of a trade of an account of one market, which may be.
func plainTrade(balance, pos, qty, price, fee int) (int, int, api.Errno) {
	if !isAmong(qty, -greatest, greatest) || !isAmong(price, 0, api.MaxPrice) {
		return 0, 0, api.ErrRange
	}
	sum := new(big.Int).Sub(plain(balance), new(big.Int).Mul(plain(qty), plain(price)))
	if !isAmount(sum) {
		return 0, 0, api.ErrFull
	}
	if !isAmount(plain(fee)) {
		return 0, 0, api.ErrRange
	}
	sum.Sub(sum, plain(fee))
	if !isAmount(sum) || !isAmong(pos+qty, -greatest, greatest) {
		return 0, 0, api.ErrFull
	}
	return int(sum.Int64()), pos + qty, api.OK
}

func TestTradeAtEdges(t *testing.T) {
	balances := []int{-most, 1 - most, 0, most - 1, most}
	positions := []int{-greatest, 1 - greatest, -1, 0, 1, greatest - 1, greatest}
	for _, balance := range balances {
		for _, pos := range positions {
			for _, qty := range edges() {
				for _, price := range edges() {
					for _, fee := range edges() {
						sum, after, want := plainTrade(balance, pos, qty, price, fee)
						got, e := Trade(of(0, balance, pos), 0, qty, price, fee)
						if e != want || e == api.OK && !Same(got, of(0, sum, after)) || e != api.OK && !Same(got, api.Account{}) {
							t.Fatalf("Trade({0 %d [%d]}, 0, %d, %d, %d) = %v, %d, want %d, %d, %d", balance, pos, qty, price, fee, got, e, sum, after, want)
						}
					}
				}
			}
		}
	}
}

func TestFee(t *testing.T) {
	for _, c := range []struct {
		qty, price, want int
		e                api.Errno
	}{
		{0, 0, 0, api.OK},
		{0, api.MaxPrice, 0, api.OK},
		{greatest, 0, 0, api.OK},
		{1, 1, 1, api.OK},
		{-1, 1, 1, api.OK},
		{1, 1999, 1, api.OK},
		{1, 2000, 1, api.OK},
		{1, 2001, 2, api.OK},
		{-1, 2000, 1, api.OK},
		{-1, 2001, 2, api.OK},
		{10, 1001, 6, api.OK},
		{-10, 1001, 6, api.OK},
		{greatest, api.MaxPrice, 5000, api.OK},
		{-greatest, api.MaxPrice, 5000, api.OK},
		{greatest + 1, 1, 0, api.ErrRange},
		{-greatest - 1, 1, 0, api.ErrRange},
		{1, -1, 0, api.ErrRange},
		{1, api.MaxPrice + 1, 0, api.ErrRange},
		{math.MinInt, math.MinInt, 0, api.ErrRange},
		{math.MaxInt, math.MaxInt, 0, api.ErrRange},
	} {
		if got, e := Fee(c.qty, c.price); got != c.want || e != c.e {
			t.Errorf("Fee(%d, %d) = %d, %d, want %d, %d", c.qty, c.price, got, e, c.want, c.e)
		}
	}
}

// The fee is the least whole number that isn't below one part in 2000, whichever side it is of.
func TestFeeIsTheLeast(t *testing.T) {
	for qty := -greatest; qty <= greatest; qty += 37 {
		for price := 0; price <= api.MaxPrice; price += 41 {
			worth := qty * price
			if worth < 0 {
				worth = -worth
			}
			got, e := Fee(qty, price)
			if e != api.OK || got*2000 < worth || (got-1)*2000 >= worth {
				t.Fatalf("Fee(%d, %d) = %d, %d of %d", qty, price, got, e, worth)
			}
		}
	}
}

func TestEquity(t *testing.T) {
	for _, c := range []struct {
		name  string
		a     api.Account
		marks []int
		want  int
		e     api.Errno
	}{
		{"the document's example", of(0, -900, 10), []int{100}, 100, api.OK},
		{"long and short", some(), []int{100, 50}, 1300, api.OK},
		{"each at its own mark", some(), []int{50, 100}, 600, api.OK},
		{"no positions", of(7, 42, 0, 0), []int{100, 50}, 42, api.OK},
		{"worth nothing", some(), []int{0, 0}, 500, api.OK},
		{"below 0", of(0, 10, -3), []int{5}, -5, api.OK},
		{"to the greatest", of(0, most-10, 10), []int{1}, most, api.OK},
		{"to the least", of(0, 10-most, -10), []int{1}, -most, api.OK},
		{"the greatest marks", of(0, 0, greatest, greatest), []int{api.MaxPrice, api.MaxPrice}, 2 * greatest * api.MaxPrice, api.OK},
		{"down ahead of up", of(0, most, -1, 1), []int{1, 1}, most, api.OK},
		{"up ahead of down", of(0, -most, 1, -1), []int{1, 1}, -most, api.OK},
		{"nobody", of(8, 0, 0), []int{1}, 0, api.ErrWho},
		{"no marks", of(0, 0, 0), nil, 0, api.ErrForm},
		{"neither marks nor positions", of(0, 0), []int{}, 0, api.ErrForm},
		{"a mark too few", some(), []int{1}, 0, api.ErrForm},
		{"a mark too many", some(), []int{1, 1, 1}, 0, api.ErrForm},
		{"too many of both", of(0, 0, 0, 0, 0), []int{1, 1, 1}, 0, api.ErrForm},
		{"no Balance", of(0, most+1, 0), []int{1}, 0, api.ErrRange},
		{"no position", of(0, 0, greatest+1), []int{1}, 0, api.ErrRange},
		{"a mark below 0", some(), []int{-1, 1}, 0, api.ErrRange},
		{"the last mark below 0", some(), []int{1, -1}, 0, api.ErrRange},
		{"a mark too great", some(), []int{1, api.MaxPrice + 1}, 0, api.ErrRange},
		{"a mark below 0 without a position", of(0, 0, 0), []int{-1}, 0, api.ErrRange},
		{"the least int as mark", some(), []int{math.MinInt, 1}, 0, api.ErrRange},
		{"the greatest int as mark", some(), []int{1, math.MaxInt}, 0, api.ErrRange},
		{"above the greatest", of(0, most, 1), []int{1}, 0, api.ErrFull},
		{"below the least", of(0, -most, -1), []int{1}, 0, api.ErrFull},
		{"above it on the way", of(0, most, 1, -1), []int{1, 1}, 0, api.ErrFull},
		{"below it on the way", of(0, -most, -1, 1), []int{1, 1}, 0, api.ErrFull},
		{"the account ahead of the marks", of(8, 0, 0), []int{-1}, 0, api.ErrWho},
		{"the form ahead of the marks", some(), []int{-1}, 0, api.ErrForm},
		{"every mark ahead of the sum", of(0, most, 1, 0), []int{1, -1}, 0, api.ErrRange},
	} {
		if got, e := Equity(c.a, c.marks); got != c.want || e != c.e {
			t.Errorf("%s: Equity(%v, %v) = %d, %d, want %d, %d", c.name, c.a, c.marks, got, e, c.want, c.e)
		}
	}
}

// Check, Same, Equity only read.
func TestOnlyReads(t *testing.T) {
	a, room := roomy(some())
	marks := []int{100, 50, 81, 82}
	kept, keptMarks := slices.Clone(room), slices.Clone(marks)
	if got, e := Equity(a, marks[:2]); got != 1300 || e != api.OK {
		t.Errorf("Equity = %d, %d, want 1300, 0", got, e)
	}
	if e := Check(a, 2); e != api.OK || !Same(a, some()) {
		t.Errorf("Check = %d of %v", e, a)
	}
	if !slices.Equal(room, kept) || !slices.Equal(marks, keptMarks) {
		t.Errorf("what was handed in was changed: %v, %v", room, marks)
	}
}

// chance answers an account that may be, far from the limits of its Balance, and marks for it.
func chance(r *rand.Rand) (api.Account, []int) {
	a := of(r.Intn(api.MaxAccounts), r.Intn(2000001)-1000000)
	var marks []int
	for range 1 + r.Intn(api.MaxMarkets) {
		a.Pos = append(a.Pos, r.Intn(2*greatest+1)-greatest)
		marks = append(marks, r.Intn(api.MaxPrice+1))
	}
	return a, marks
}

// P4.4: who trades at the mark has the same equity, less the fee; at another price, less what that was worse, too.
func TestTradeKeepsEquity(t *testing.T) {
	r := rand.New(rand.NewSource(4))
	traded := 0
	for range 50000 {
		a, marks := chance(r)
		market := r.Intn(len(marks))
		qty := r.Intn(2*greatest+1) - greatest
		worse := 0
		if r.Intn(2) == 0 {
			worse = r.Intn(api.MaxPrice+1) - marks[market]
		}
		fee, e := Fee(qty, marks[market]+worse)
		if e != api.OK {
			t.Fatalf("Fee(%d, %d): %d", qty, marks[market]+worse, e)
		}
		b, e := Trade(a, market, qty, marks[market]+worse, fee)
		if e == api.ErrFull && !isAmong(a.Pos[market]+qty, -greatest, greatest) {
			continue
		}
		if e != api.OK {
			t.Fatalf("Trade(%v, %d, %d, %d, %d): %d", a, market, qty, marks[market]+worse, fee, e)
		}
		traded++
		before, e1 := Equity(a, marks)
		after, e2 := Equity(b, marks)
		if e1 != api.OK || e2 != api.OK || after != before-qty*worse-fee {
			t.Fatalf("%v has %d (%d); after %d at %d, with the fee %d, %v has %d (%d)", a, before, e1, qty, marks[market]+worse, fee, b, after, e2)
		}
		if e := Check(b, len(marks)); e != api.OK || b.ID != a.ID {
			t.Fatalf("Trade answers %v: %d", b, e)
		}
	}
	if traded < 10000 {
		t.Errorf("only %d trades were made", traded)
	}
}

// Two who trade with each other: what one pays the other gets, and their positions are none together.
func TestTradeOfTwo(t *testing.T) {
	a, e1 := Trade(of(0, 1000, 0, 3), 1, 7, 90, 0)
	b, e2 := Trade(of(1, 1000, 0, -3), 1, -7, 90, 0)
	if e1 != api.OK || e2 != api.OK {
		t.Fatalf("%d, %d", e1, e2)
	}
	if a.Balance+b.Balance != 2000 || a.Pos[0]+b.Pos[0] != 0 || a.Pos[1]+b.Pos[1] != 0 {
		t.Errorf("%v and %v", a, b)
	}
}
