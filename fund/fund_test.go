package fund

import (
	"math"
	"math/big"
	"math/rand"
	"slices"
	"testing"

	"tollbooth/account"
	"tollbooth/api"
)

const (
	most     = api.MaxMoney
	greatest = api.MaxPosition
	dearest  = api.MaxPrice
)

func of(id, balance int, pos ...int) api.Account {
	return api.Account{ID: id, Balance: balance, Pos: pos}
}

// two is long in its first market, short in the second one.
func two() api.Account { return of(3, 500, 7, -40) }

func sameList(a, b []api.Account) bool { return slices.EqualFunc(a, b, account.Same) }

func copyOfAll(l []api.Account) []api.Account {
	var out []api.Account
	for _, a := range l {
		a.Pos = slices.Clone(a.Pos)
		out = append(out, a)
	}
	return out
}

func TestPays(t *testing.T) {
	for _, c := range []struct {
		name               string
		a                  api.Account
		market, mark, rate int
		want               int
		e                  api.Errno
	}{
		{"long, rounded up", two(), 0, 100, 10, 1, api.OK},
		{"short, rounded up", of(0, 0, -7), 0, 100, 10, 0, api.OK},
		{"short, more than one", of(0, 0, -17), 0, 100, 10, -1, api.OK},
		{"long gets, rounded up", of(0, 0, 17), 0, 100, -10, -1, api.OK},
		{"short pays, rounded up", of(0, 0, -17), 0, 100, -10, 2, api.OK},
		{"long, even", of(0, 0, 7), 0, 10000, 10, 70, api.OK},
		{"short, even", of(0, 0, -7), 0, 10000, 10, -70, api.OK},
		{"the other market", two(), 1, 10000, 10, -400, api.OK},
		{"no position", of(0, 9, 0), 0, 10000, 100, 0, api.OK},
		{"no rate", two(), 0, 10000, 0, 0, api.OK},
		{"a mark of 0", two(), 0, 0, 100, 0, api.OK},
		{"the least that is paid", of(0, 0, 1), 0, 1, 1, 1, api.OK},
		{"the least that isn't got", of(0, 0, -1), 0, 1, 1, 0, api.OK},
		{"the most", of(0, 0, greatest), 0, dearest, api.MaxRate, 100000, api.OK},
		{"the most the other way", of(0, 0, -greatest), 0, dearest, api.MaxRate, -100000, api.OK},
		{"the least rate", of(0, 0, greatest), 0, dearest, -api.MaxRate, -100000, api.OK},
		{"the last ID, the least Balance", of(api.MaxAccounts-1, -most, greatest), 0, 1, 1, 1, api.OK},
		{"an ID too great", of(api.MaxAccounts, 0, 1), 0, 1, 1, 0, api.ErrWho},
		{"an ID below 0", of(-1, 0, 1), 0, 1, 1, 0, api.ErrWho},
		{"no positions at all", of(0, 0), 0, 1, 1, 0, api.ErrForm},
		{"too many positions", of(0, 0, 1, 1, 1), 0, 1, 1, 0, api.ErrForm},
		{"a Balance that is no amount", of(0, most+1, 1), 0, 1, 1, 0, api.ErrRange},
		{"a position too great", of(0, 0, greatest+1), 0, 1, 1, 0, api.ErrRange},
		{"another one too great", of(0, 0, 1, -greatest-1), 0, 1, 1, 0, api.ErrRange},
		{"the market behind the last", two(), 2, 1, 1, 0, api.ErrWho},
		{"the second one of one", of(0, 0, 1), 1, 1, 1, 0, api.ErrWho},
		{"a market below 0", two(), -1, 1, 1, 0, api.ErrWho},
		{"the greatest int as market", two(), math.MaxInt, 1, 1, 0, api.ErrWho},
		{"the least int as market", two(), math.MinInt, 1, 1, 0, api.ErrWho},
		{"a rate too great", two(), 0, 1, api.MaxRate + 1, 0, api.ErrRange},
		{"a rate too small", two(), 0, 1, -api.MaxRate - 1, 0, api.ErrRange},
		{"the greatest int as rate", two(), 0, 1, math.MaxInt, 0, api.ErrRange},
		{"the least int as rate", two(), 0, 1, math.MinInt, 0, api.ErrRange},
		{"a rate too great of no position", of(0, 0, 0), 0, 1, api.MaxRate + 1, 0, api.ErrRange},
		{"a mark too great", two(), 0, dearest + 1, 1, 0, api.ErrRange},
		{"a mark below 0", two(), 0, -1, 1, 0, api.ErrRange},
		{"a mark below 0 of no position", of(0, 0, 0), 0, -1, 1, 0, api.ErrRange},
		{"the greatest int as mark", two(), 0, math.MaxInt, 1, 0, api.ErrRange},
		{"the least int as mark", two(), 0, math.MinInt, 1, 0, api.ErrRange},
		{"the account ahead of the market", of(0, most+1, 1), 1, 1, 1, 0, api.ErrRange},
		{"its form ahead of the rate", of(0, 0), 0, 1, 101, 0, api.ErrForm},
		{"the market ahead of the rate", two(), 2, 1, 101, 0, api.ErrWho},
		{"the market ahead of the mark", two(), -1, -1, 1, 0, api.ErrWho},
	} {
		got, e := Pays(c.a, c.market, c.mark, c.rate)
		if got != c.want || e != c.e {
			t.Errorf("%s: %d, %d, want %d, %d", c.name, got, e, c.want, c.e)
		}
	}
}

type settleCase struct {
	name               string
	l                  []api.Account
	market, mark, rate int
	want               []api.Account
	left               int
	e                  api.Errno
}

func runSettles(t *testing.T, l []settleCase) {
	t.Helper()
	for _, c := range l {
		got, left, e := Settle(c.l, c.market, c.mark, c.rate)
		if !sameList(got, c.want) || left != c.left || e != c.e {
			t.Errorf("%s: %v, %d, %d, want %v, %d, %d", c.name, got, left, e, c.want, c.left, c.e)
		}
		if e != api.OK && got != nil {
			t.Errorf("%s: a list with an error: %v", c.name, got)
		}
	}
}

func TestSettle(t *testing.T) {
	runSettles(t, []settleCase{
		{"who is long pays", []api.Account{of(0, 9, 7), of(1, 0, -7), of(3, 0, 0)}, 0, 100, 10,
			[]api.Account{of(0, 8, 7), of(1, 0, -7), of(3, 0, 0)}, 1, api.OK},
		{"who is short pays", []api.Account{of(0, 9, 7), of(1, 0, -7), of(3, 0, 0)}, 0, 100, -10,
			[]api.Account{of(0, 9, 7), of(1, -1, -7), of(3, 0, 0)}, 1, api.OK},
		{"nothing is left", []api.Account{of(0, 0, 7), of(1, 0, -7)}, 0, 10000, 10,
			[]api.Account{of(0, -70, 7), of(1, 70, -7)}, 0, api.OK},
		{"the other market", []api.Account{of(0, 0, 7, 1), of(1, 0, -7, -1)}, 1, 10000, 10,
			[]api.Account{of(0, -10, 7, 1), of(1, 10, -7, -1)}, 0, api.OK},
		{"no rate", []api.Account{two()}, 0, 100, 0, []api.Account{two()}, 0, api.OK},
		{"positions that aren't none together", []api.Account{of(0, 0, -7)}, 0, 10000, 10,
			[]api.Account{of(0, 70, -7)}, -70, api.OK},
		{"nobody", nil, 0, 100, 10, nil, 0, api.OK},
		{"nobody, an empty list", []api.Account{}, 0, 100, 10, nil, 0, api.OK},
		// Nothing is asked of market, mark and rate but by an account's own Pays.
		{"nobody, whatever is asked", nil, -1, -1, math.MinInt, nil, 0, api.OK},
		// Nothing is said of IDs: not that they go up, not that they differ.
		{"whatever IDs", []api.Account{of(3, 0, 1), of(3, 0, 1), of(0, 0, 0)}, 0, 10000, 1,
			[]api.Account{of(3, -1, 1), of(3, -1, 1), of(0, 0, 0)}, 2, api.OK},
		{"of other markets", []api.Account{of(0, 0, 1), of(1, 0, 1, 5)}, 0, 10000, 1,
			[]api.Account{of(0, -1, 1), of(1, -1, 1, 5)}, 2, api.OK},
		{"the least Balance that can be paid from", []api.Account{of(0, -most+1, 1)}, 0, 10000, 1,
			[]api.Account{of(0, -most, 1)}, 1, api.OK},
		{"the greatest that can get", []api.Account{of(0, most-1, -1)}, 0, 10000, 1,
			[]api.Account{of(0, most, -1)}, -1, api.OK},
		{"the least, and nothing to pay", []api.Account{of(0, -most, 0)}, 0, 10000, 100,
			[]api.Account{of(0, -most, 0)}, 0, api.OK},
		{"the most that all pay", slices.Repeat([]api.Account{of(0, 0, greatest)}, api.MaxAccounts), 0, dearest, api.MaxRate,
			slices.Repeat([]api.Account{of(0, -100000, greatest)}, api.MaxAccounts), 800000, api.OK},
	})
}

func TestSettleErrors(t *testing.T) {
	good, bad, poor := of(0, 0, 1), of(0, most+1, 1), of(0, -most, 1)
	runSettles(t, []settleCase{
		{"too many", slices.Repeat([]api.Account{good}, api.MaxAccounts+1), 0, 1, 1, nil, 0, api.ErrMany},
		{"too many ahead of what they are", make([]api.Account, api.MaxAccounts+1), 9, -1, 101, nil, 0, api.ErrMany},
		{"one that may not be", []api.Account{good, bad}, 0, 1, 1, nil, 0, api.ErrRange},
		{"one without positions", []api.Account{good, {}}, 0, 1, 1, nil, 0, api.ErrForm},
		{"one with an ID that may not be", []api.Account{good, of(8, 0, 1)}, 0, 1, 1, nil, 0, api.ErrWho},
		{"no market", []api.Account{good}, 1, 1, 1, nil, 0, api.ErrWho},
		{"a market that only one has", []api.Account{two(), good}, 1, 1, 1, nil, 0, api.ErrWho},
		{"no rate", []api.Account{good}, 0, 1, 101, nil, 0, api.ErrRange},
		{"no mark", []api.Account{good}, 0, dearest + 1, 1, nil, 0, api.ErrRange},
		{"a Balance that gets too small", []api.Account{poor}, 0, 1, 1, nil, 0, api.ErrFull},
		{"a Balance that gets too great", []api.Account{of(0, most, -1)}, 0, dearest, 1, nil, 0, api.ErrFull},
		{"too small by one", []api.Account{of(0, -most+99999, greatest)}, 0, dearest, 100, nil, 0, api.ErrFull},
		{"the last one", append(slices.Repeat([]api.Account{good}, 7), poor), 0, 1, 1, nil, 0, api.ErrFull},
		// Account by account: all of the first one's errors come ahead of those of the next one.
		{"what the first lacks ahead of what the next is", []api.Account{poor, bad}, 0, 1, 1, nil, 0, api.ErrFull},
		{"what the first is ahead of what the next lacks", []api.Account{bad, poor}, 0, 1, 1, nil, 0, api.ErrRange},
		{"the first one's form ahead of the next one's ID", []api.Account{{}, of(8, 0, 1)}, 0, 1, 1, nil, 0, api.ErrForm},
	})
}

func TestSettleOnlyReads(t *testing.T) {
	posRoom := []int{7, -4, 77, 78}
	others := []int{-7, 4, 79}
	room := []api.Account{
		{ID: 0, Balance: 9, Pos: posRoom[:2]}, {ID: 1, Pos: others[:2]}, of(5, 5, 5, 5), of(6, 6, 6, 6),
	}
	ahead := copyOfAll(room)
	for _, rate := range []int{10, -10, 101} {
		for market := -1; market <= 2; market++ {
			Settle(room[:2], market, 100, rate)
			Pays(room[0], market, 100, rate)
		}
	}
	if !sameList(room, ahead) || !slices.Equal(posRoom, []int{7, -4, 77, 78}) || !slices.Equal(others, []int{-7, 4, 79}) {
		t.Errorf("what was handed in is another now: %v, %v, %v", room, posRoom, others)
	}
}

func TestSettleAnswersNewMemory(t *testing.T) {
	shared := []int{7, -4}
	l := []api.Account{{ID: 0, Pos: shared}, {ID: 1, Pos: shared}, of(2, 0, -14, 8)}
	ahead := copyOfAll(l)
	got, _, e := Settle(l, 0, 100, 10)
	if e != api.OK {
		t.Fatal(e)
	}
	got[0].Pos[0] = 55
	_ = append(got[0].Pos, 56)
	got[0].ID, got[2].Balance = 9, 9
	if !sameList(l, ahead) {
		t.Errorf("the answer's memory is that of what was handed in: %v", l)
	}
	if got[1].Pos[0] != 7 {
		t.Errorf("two lists of the answer share memory: %v", got)
	}
}

// plainPays is exact arithmetic: the least whole number that isn't below what is paid.
func plainPays(position, mark, rate int) int {
	n := big.NewInt(int64(position))
	n.Mul(n, big.NewInt(int64(mark))).Mul(n, big.NewInt(int64(rate)))
	// Div rounds down for a divisor above 0; up is down of the negative.
	n.Neg(n).Div(n, big.NewInt(10000)).Neg(n)
	return int(n.Int64())
}

func TestPaysAsExactArithmetic(t *testing.T) {
	r := rand.New(rand.NewSource(61))
	for range 20000 {
		position, mark := r.Intn(2*greatest+1)-greatest, r.Intn(dearest+1)
		rate := r.Intn(2*api.MaxRate+1) - api.MaxRate
		got, e := Pays(of(0, 0, position), 0, mark, rate)
		if want := plainPays(position, mark, rate); got != want || e != api.OK {
			t.Fatalf("%d at %d, rate %d: %d, %d, want %d", position, mark, rate, got, e, want)
		}
	}
}

// balanced answers accounts whose positions in each of two markets are none together.
func balanced(r *rand.Rand) []api.Account {
	n := 1 + r.Intn(api.MaxAccounts)
	l := make([]api.Account, n)
	for i := range l {
		l[i] = of(i, r.Intn(2001)-1000, 0, 0)
	}
	for range 4 * n {
		a, b, market, qty := r.Intn(n), r.Intn(n), r.Intn(2), r.Intn(30)
		l[a].Pos[market] += qty
		l[b].Pos[market] -= qty
	}
	return l
}

func TestWhatIsLeft(t *testing.T) {
	r := rand.New(rand.NewSource(62))
	something := false
	for range 20000 {
		l := balanced(r)
		market, mark, rate := r.Intn(2), r.Intn(dearest+1), r.Intn(2*api.MaxRate+1)-api.MaxRate
		got, left, e := Settle(l, market, mark, rate)
		if e != api.OK || left < 0 || left >= len(l) {
			t.Fatalf("%v, market %d, mark %d, rate %d: %d is left, %d", l, market, mark, rate, left, e)
		}
		something = something || left > 1
		before, after := 0, left
		for i := range l {
			before += l[i].Balance
			after += got[i].Balance
			paid := plainPays(l[i].Pos[market], mark, rate)
			if got[i].ID != l[i].ID || got[i].Balance != l[i].Balance-paid || !slices.Equal(got[i].Pos, l[i].Pos) {
				t.Fatalf("%v becomes %v, it pays %d", l[i], got[i], paid)
			}
		}
		if before != after {
			t.Fatalf("%v: money is made or lost: %d ahead, %d after", l, before, after)
		}
	}
	if !something {
		t.Error("nothing was ever left: the test tells nothing")
	}
}
