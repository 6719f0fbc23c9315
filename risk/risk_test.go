package risk

import (
	"math"
	"math/rand"
	"slices"
	"testing"

	"tollbooth/account"
	"tollbooth/api"
	"tollbooth/book"
)

const (
	most     = api.MaxMoney
	greatest = api.MaxPosition
	dearest  = api.MaxPrice
)

func bid(id, price int) api.Order {
	return api.Order{ID: id, Account: id % api.MaxAccounts, Side: api.Buy, Price: price, Qty: 3}
}

func ask(id, price int) api.Order {
	o := bid(id, price)
	o.Side = api.Sell
	return o
}

// market answers one whose best prices are these (0: nobody stands there), with worse ones behind them.
func market(index, last, best, cheapest int) api.Market {
	m := api.Market{Index: index, Last: last}
	if best > 0 {
		m.B.Bids = []api.Order{bid(7, best), bid(9, best)}
	}
	if best > 1 {
		m.B.Bids = append(m.B.Bids, bid(1, 1))
	}
	if cheapest > 0 {
		m.B.Asks = []api.Order{ask(3, cheapest), ask(5, cheapest)}
	}
	if cheapest > 0 && cheapest < dearest {
		m.B.Asks = append(m.B.Asks, ask(2, dearest))
	}
	return m
}

// broken answers a market whose book may not be, with this Index.
func broken(index int) api.Market {
	return api.Market{Index: index, B: api.Book{Bids: []api.Order{ask(1, 5)}}}
}

func of(id, balance int, pos ...int) api.Account {
	return api.Account{ID: id, Balance: balance, Pos: pos}
}

func long() api.Account { return of(0, -900, 10) }

func TestCheckMarket(t *testing.T) {
	crossed := market(100, 0, 0, 0)
	crossed.B = api.Book{Bids: []api.Order{bid(1, 5)}, Asks: []api.Order{ask(2, 5)}}
	twice := market(100, 0, 0, 0)
	twice.B = api.Book{Bids: []api.Order{bid(1, 5)}, Asks: []api.Order{ask(1, 6)}}
	nobody := market(100, 0, 0, 0)
	nobody.B.Asks = []api.Order{ask(0, 5)}
	many := market(100, 0, 0, 0)
	for i := range api.MaxOrders + 1 {
		many.B.Bids = append(many.B.Bids, bid(1+i, 100-i))
	}
	full := many
	full.B.Bids = many.B.Bids[:api.MaxOrders]
	for _, c := range []struct {
		name string
		m    api.Market
		want api.Errno
	}{
		{"no orders, never traded", market(100, 0, 0, 0), api.OK},
		{"orders on both sides", market(100, 50, 99, 101), api.OK},
		{"empty lists", api.Market{Index: 1, B: api.Book{Bids: []api.Order{}, Asks: []api.Order{}}}, api.OK},
		{"the least Index", market(1, 0, 0, 0), api.OK},
		{"the greatest Index", market(dearest, 0, 0, 0), api.OK},
		{"the least Last", market(100, 1, 0, 0), api.OK},
		{"the greatest Last", market(100, dearest, 0, 0), api.OK},
		{"a full book", full, api.OK},
		{"no Index", market(0, 0, 0, 0), api.ErrRange},
		{"an Index below 0", market(-1, 0, 0, 0), api.ErrRange},
		{"an Index too great", market(dearest+1, 0, 0, 0), api.ErrRange},
		{"the least int as Index", market(math.MinInt, 0, 0, 0), api.ErrRange},
		{"the greatest int as Index", market(math.MaxInt, 0, 0, 0), api.ErrRange},
		{"a Last below 0", market(100, -1, 0, 0), api.ErrRange},
		{"a Last too great", market(100, dearest+1, 0, 0), api.ErrRange},
		{"the least int as Last", market(100, math.MinInt, 0, 0), api.ErrRange},
		{"the greatest int as Last", market(100, math.MaxInt, 0, 0), api.ErrRange},
		{"too many orders", many, api.ErrMany},
		{"a crossed book", crossed, api.ErrForm},
		{"an order twice", twice, api.ErrTwice},
		{"an order of no number", nobody, api.ErrWho},
		{"the wrong side", broken(100), api.ErrForm},
		{"the book ahead of the Index", broken(0), api.ErrForm},
		{"nothing at all", api.Market{}, api.ErrRange},
	} {
		if got := CheckMarket(c.m); got != c.want {
			t.Errorf("%s: CheckMarket = %d, want %d", c.name, got, c.want)
		}
		if got, e := Mark(c.m); e != c.want || e != api.OK && got != 0 {
			t.Errorf("%s: Mark = %d, %d, want the error %d", c.name, got, e, c.want)
		}
		if got, e := Marks([]api.Market{c.m}); e != c.want || e != api.OK && got != nil {
			t.Errorf("%s: Marks = %v, %d, want the error %d", c.name, got, e, c.want)
		}
	}
}

func TestMark(t *testing.T) {
	for _, c := range []struct {
		name string
		m    api.Market
		want int
	}{
		{"the Index alone", market(100, 0, 0, 0), 100},
		{"Last alone doesn't count", market(100, 104, 0, 0), 100},
		{"Last alone, below", market(100, 96, 0, 0), 100},
		{"the book alone doesn't count", market(100, 0, 102, 104), 100},
		{"the book alone, below", market(100, 0, 96, 98), 100},
		{"a bid without an ask", market(100, 104, 104, 0), 100},
		{"an ask without a bid", market(100, 96, 0, 96), 100},
		{"the book is the middle", market(100, 104, 101, 103), 102},
		{"Last is the middle", market(100, 102, 103, 105), 102},
		{"the Index is the middle", market(100, 102, 95, 99), 100},
		{"the book is the middle, below", market(100, 96, 97, 99), 98},
		{"Last is the middle, below", market(100, 98, 95, 97), 98},
		{"half, without what is left over", market(100, 104, 101, 104), 102},
		{"the lowest prices, a band of nothing", market(2, 1, 1, 2), 2},
		{"at the upper end of the band", market(100, 105, 104, 106), 105},
		{"above the band", market(100, 106, 105, 107), 105},
		{"far above the band", market(100, dearest, dearest-2, dearest), 105},
		{"at the lower end of the band", market(100, 95, 94, 96), 95},
		{"below the band", market(100, 94, 93, 95), 95},
		{"far below the band", market(100, 1, 1, 2), 95},
		{"a band of nothing", market(19, 30, 30, 32), 19},
		{"a band of nothing, below", market(19, 2, 2, 4), 19},
		{"a band of one", market(20, 30, 30, 32), 21},
		{"a band of one, below", market(20, 2, 2, 4), 19},
		{"what is left over of the band", market(39, 60, 60, 62), 40},
		{"what is left over of the band, below", market(39, 2, 2, 4), 38},
		{"the least Index", market(1, 0, 0, 0), 1},
		{"the least Index, drawn up", market(1, dearest, dearest-1, dearest), 1},
		{"the greatest Index", market(dearest, dearest, dearest-1, dearest), dearest},
		{"the greatest Index, drawn down", market(dearest, 1, 1, 2), 9500},
		{"drawn up to the greatest price", market(9900, dearest, dearest-1, dearest), 9999},
	} {
		if got, e := Mark(c.m); got != c.want || e != api.OK {
			t.Errorf("%s: Mark = %d, %d, want %d", c.name, got, e, c.want)
		}
	}
}

// plainMark tells the mark of a market by sorting. Prices of 0: nobody stands there.
func plainMark(index, last, best, cheapest int) int {
	three := []int{index, index, index}
	if best > 0 && cheapest > 0 {
		three[1] = (best + cheapest - (best+cheapest)%2) / 2
	}
	if last > 0 {
		three[2] = last
	}
	slices.Sort(three)
	far := (index - index%api.Band) / api.Band
	switch {
	case three[1] < index-far:
		return index - far
	case three[1] > index+far:
		return index + far
	}
	return three[1]
}

// Whatever the market, the mark is a price, no further than a part of the Index from that.
func TestMarkByChance(t *testing.T) {
	r := rand.New(rand.NewSource(5))
	for range 50000 {
		index := 1 + r.Intn(dearest)
		near := func() int { return max(1, min(dearest, index+r.Intn(index/5+9)-index/10-4)) }
		last, best, cheapest := near()*r.Intn(2), near(), near()
		if best >= cheapest {
			best, cheapest = 0, cheapest*r.Intn(2)
		}
		m := market(index, last, best, cheapest)
		got, e := Mark(m)
		if want := plainMark(index, last, best, cheapest); got != want || e != api.OK {
			t.Fatalf("Mark of %d, %d, %d, %d = %d, %d, want %d", index, last, best, cheapest, got, e, want)
		}
		if got < 1 || got > dearest || got*api.Band < index*(api.Band-1) || got*api.Band > index*(api.Band+1) {
			t.Fatalf("Mark of %d, %d, %d, %d = %d", index, last, best, cheapest, got)
		}
	}
}

func TestMarks(t *testing.T) {
	one, two := market(100, 104, 101, 103), market(39, 60, 60, 62)
	for _, c := range []struct {
		name string
		l    []api.Market
		want []int
		e    api.Errno
	}{
		{"one", []api.Market{one}, []int{102}, api.OK},
		{"two", []api.Market{one, two}, []int{102, 40}, api.OK},
		{"in their order", []api.Market{two, one}, []int{40, 102}, api.OK},
		{"none", nil, nil, api.ErrMany},
		{"none, an empty list", []api.Market{}, nil, api.ErrMany},
		{"too many", []api.Market{one, two, one}, nil, api.ErrMany},
		{"the number of them ahead of what they are", []api.Market{broken(100), two, one}, nil, api.ErrMany},
		{"the first is wrong", []api.Market{broken(100), two}, nil, api.ErrForm},
		{"the last is wrong", []api.Market{one, market(0, 0, 0, 0)}, nil, api.ErrRange},
		{"both are wrong", []api.Market{market(0, 0, 0, 0), broken(100)}, nil, api.ErrRange},
		{"both are wrong, the other way round", []api.Market{broken(100), market(0, 0, 0, 0)}, nil, api.ErrForm},
	} {
		got, e := Marks(c.l)
		if !slices.Equal(got, c.want) || e != c.e {
			t.Errorf("%s: Marks = %v, %d, want %v, %d", c.name, got, e, c.want, c.e)
		}
	}
}

// Margins, Sound and Bankrupt all tell what is wrong with the account and the marks, ahead of anything else.
func TestErrorsOfAccounts(t *testing.T) {
	for _, c := range []struct {
		name  string
		a     api.Account
		marks []int
		want  api.Errno
	}{
		{"nobody", of(8, 0, 1), []int{1}, api.ErrWho},
		{"an ID below 0", of(-1, 0, 1), []int{1}, api.ErrWho},
		{"no marks", of(0, 0, 1), nil, api.ErrForm},
		{"neither marks nor positions", of(0, 0), []int{}, api.ErrForm},
		{"a mark too few", of(0, 0, 1, 1), []int{1}, api.ErrForm},
		{"a mark too many", of(0, 0, 1), []int{1, 1}, api.ErrForm},
		{"too many of both", of(0, 0, 1, 1, 1), []int{1, 1, 1}, api.ErrForm},
		{"no Balance", of(0, most+1, 1), []int{1}, api.ErrRange},
		{"a position too great", of(0, 0, greatest+1), []int{1}, api.ErrRange},
		{"the least int as position", of(0, 0, 1, math.MinInt), []int{1, 1}, api.ErrRange},
		{"a mark below 0", of(0, 0, 1), []int{-1}, api.ErrRange},
		{"a mark too great", of(0, 0, 1, 1), []int{1, dearest + 1}, api.ErrRange},
		{"a mark below 0 without a position", of(0, 0, 0, 1), []int{-1, 1}, api.ErrRange},
		{"the least int as mark", of(0, 0, 1), []int{math.MinInt}, api.ErrRange},
		{"the greatest int as mark", of(0, 0, 1), []int{math.MaxInt}, api.ErrRange},
		{"who ahead of form", of(8, 0, 1), nil, api.ErrWho},
		{"form ahead of range", of(0, most+1, 1), []int{-1, 1}, api.ErrForm},
	} {
		if initial, maintenance, e := Margins(c.a, c.marks); initial != 0 || maintenance != 0 || e != c.want {
			t.Errorf("%s: Margins = %d, %d, %d, want the error %d", c.name, initial, maintenance, e, c.want)
		}
		if begin, goesOn, e := Sound(c.a, c.marks); begin || goesOn || e != c.want {
			t.Errorf("%s: Sound = %v, %v, %d, want the error %d", c.name, begin, goesOn, e, c.want)
		}
		for _, market := range []int{0, 1, 2, -1} {
			if got, e := Bankrupt(c.a, c.marks, market); got != 0 || e != c.want {
				t.Errorf("%s: Bankrupt = %d, %d, want the error %d", c.name, got, e, c.want)
			}
		}
	}
}

func TestMargins(t *testing.T) {
	for _, c := range []struct {
		name                 string
		a                    api.Account
		marks                []int
		initial, maintenance int
	}{
		{"the document's example", long(), []int{100}, 100, 50},
		{"short", of(0, 0, -10), []int{100}, 100, 50},
		{"nothing", of(0, 0, 0), []int{100}, 0, 0},
		{"worth nothing", of(0, 0, 10), []int{0}, 0, 0},
		{"the least", of(0, 0, 1), []int{1}, 1, 1},
		{"the least, short", of(0, 0, -1), []int{1}, 1, 1},
		{"without rounding", of(0, 0, 20), []int{1}, 2, 1},
		{"rounded up", of(0, 0, 21), []int{1}, 3, 2},
		{"rounded up, short", of(0, 0, -21), []int{1}, 3, 2},
		{"only one is rounded", of(0, 0, 30), []int{1}, 3, 2},
		{"below the first end", of(0, 0, 99), []int{1010}, 9999, 5000},
		{"at the first end", of(0, 0, 100), []int{1000}, 10000, 5000},
		{"at the first end, short", of(0, 0, -100), []int{1000}, 10000, 5000},
		{"above the first end", of(0, 0, 11), []int{9091}, 20001, 10001},
		{"above the first end, short", of(0, 0, -11), []int{9091}, 20001, 10001},
		{"at the second end", of(0, 0, 1000), []int{1000}, 200000, 100000},
		{"at the second end, short", of(0, 0, -1000), []int{1000}, 200000, 100000},
		{"above the second end", of(0, 0, 101), []int{9901}, 500001, 250001},
		{"above the second end, short", of(0, 0, -101), []int{9901}, 500001, 250001},
		{"the greatest", of(0, 0, greatest), []int{dearest}, 5000000, 2500000},
		{"two", of(0, 0, 10, 20), []int{100, 100}, 300, 150},
		{"each at its own mark", of(0, 0, 10, 20), []int{200, 50}, 300, 150},
		{"long and short don't cancel", of(0, 0, 10, -10), []int{100, 100}, 200, 100},
		{"each rounded by itself", of(0, 0, 1, 1), []int{1, 1}, 2, 2},
		{"each of its own size", of(0, 0, 100, 100), []int{1000, 1001}, 10000 + 20020, 5000 + 10010},
		{"the greatest two", of(0, 0, greatest, -greatest), []int{dearest, dearest}, 10000000, 5000000},
		{"whatever the Balance", of(0, -most, 10), []int{100}, 100, 50},
	} {
		initial, maintenance, e := Margins(c.a, c.marks)
		if initial != c.initial || maintenance != c.maintenance || e != api.OK {
			t.Errorf("%s: Margins(%v, %v) = %d, %d, %d, want %d, %d", c.name, c.a, c.marks, initial, maintenance, e, c.initial, c.maintenance)
		}
	}
	// The sum of what it has is no amount, but what it wants doesn't hang on that.
	if initial, maintenance, e := Margins(of(0, most, 10), []int{100}); initial != 100 || maintenance != 50 || e != api.OK {
		t.Errorf("Margins = %d, %d, %d, want 100, 50, 0", initial, maintenance, e)
	}
}

// ofHundredUp: is part the least whole number that isn't below n of a hundred of worth?
func ofHundredUp(part, worth, n int) bool {
	return part*100 >= worth*n && (part-1)*100 < worth*n
}

func TestMarginsOfOne(t *testing.T) {
	for pos := -greatest; pos <= greatest; pos += 7 {
		for mark := 0; mark <= dearest; mark += 61 {
			worth := pos * mark
			if worth < 0 {
				worth = -worth
			}
			begin, goOn := 50, 25
			if worth <= 1000000 {
				begin, goOn = 20, 10
			}
			if worth <= 100000 {
				begin, goOn = 10, 5
			}
			initial, maintenance, e := Margins(of(0, 0, pos), []int{mark})
			if e != api.OK || !ofHundredUp(initial, worth, begin) || !ofHundredUp(maintenance, worth, goOn) {
				t.Fatalf("Margins of %d at %d: %d, %d, %d", pos, mark, initial, maintenance, e)
			}
		}
	}
}

func TestSound(t *testing.T) {
	for _, c := range []struct {
		name          string
		a             api.Account
		marks         []int
		begin, goesOn bool
	}{
		{"the document's example", long(), []int{100}, true, true},
		{"one too little to begin", of(0, -901, 10), []int{100}, false, true},
		{"just enough to go on", of(0, -950, 10), []int{100}, false, true},
		{"one too little to go on", of(0, -951, 10), []int{100}, false, false},
		{"nothing left", of(0, -1000, 10), []int{100}, false, false},
		{"below 0", of(0, -1001, 10), []int{100}, false, false},
		{"short, enough", of(0, 1100, -10), []int{100}, true, true},
		{"short, one too little to begin", of(0, 1099, -10), []int{100}, false, true},
		{"short, just enough to go on", of(0, 1050, -10), []int{100}, false, true},
		{"short, one too little to go on", of(0, 1049, -10), []int{100}, false, false},
		{"nothing, and wants nothing", of(0, 0, 0), []int{100}, true, true},
		{"a debt alone", of(0, -1, 0), []int{100}, false, false},
		{"two", of(0, -700, 10, -10), []int{100, 10}, true, true},
		{"two, one too little", of(0, -791, 10, -10), []int{100, 10}, false, true},
		{"two, too little", of(0, -846, 10, -10), []int{100, 10}, false, false},
		{"as much as there may be", of(0, most-1000, 10), []int{100}, true, true},
		{"as little as there may be", of(0, -most+1000, -10), []int{100}, false, false},
	} {
		begin, goesOn, e := Sound(c.a, c.marks)
		if begin != c.begin || goesOn != c.goesOn || e != api.OK {
			t.Errorf("%s: Sound(%v, %v) = %v, %v, %d, want %v, %v", c.name, c.a, c.marks, begin, goesOn, e, c.begin, c.goesOn)
		}
	}
}

// What only Equity refuses: the account's sum is no amount, at its end or on the way.
func TestErrorsOfEquity(t *testing.T) {
	for _, c := range []struct {
		a     api.Account
		marks []int
	}{
		{of(0, most, 1), []int{1}},
		{of(0, -most, -1), []int{1}},
		{of(0, most, 1, -1), []int{1, 1}},
		{of(0, -most, -1, 1), []int{1, 1}},
	} {
		if begin, goesOn, e := Sound(c.a, c.marks); begin || goesOn || e != api.ErrFull {
			t.Errorf("Sound(%v, %v) = %v, %v, %d, want %d", c.a, c.marks, begin, goesOn, e, api.ErrFull)
		}
		for _, market := range []int{0, 1, 2, -1} {
			if got, e := Bankrupt(c.a, c.marks, market); got != 0 || e != api.ErrFull {
				t.Errorf("Bankrupt(%v, %v, %d) = %d, %d, want %d", c.a, c.marks, market, got, e, api.ErrFull)
			}
		}
	}
}

func TestBankrupt(t *testing.T) {
	for _, c := range []struct {
		name   string
		a      api.Account
		marks  []int
		market int
		want   int
		e      api.Errno
	}{
		{"long", long(), []int{100}, 0, 90, api.OK},
		{"long, rounded up", of(0, -901, 10), []int{100}, 0, 91, api.OK},
		{"long, just not rounded", of(0, -910, 10), []int{100}, 0, 91, api.OK},
		{"short", of(0, 1000, -10), []int{90}, 0, 100, api.OK},
		{"short, rounded down", of(0, 1009, -10), []int{90}, 0, 100, api.OK},
		{"short, just not rounded", of(0, 1010, -10), []int{90}, 0, 101, api.OK},
		{"its own mark doesn't count", long(), []int{0}, 0, 90, api.OK},
		{"its own mark doesn't count, the greatest", long(), []int{dearest}, 0, 90, api.OK},
		{"one", of(0, -7, 1), []int{5}, 0, 7, api.OK},
		{"one, short", of(0, 7, -1), []int{5}, 0, 7, api.OK},
		{"with another position", of(0, -1900, 10, 20), []int{100, 50}, 0, 90, api.OK},
		{"with another position, that one", of(0, -1900, 10, 20), []int{100, 50}, 1, 45, api.OK},
		{"with a short one", of(0, 0, 10, -20), []int{100, 45}, 0, 90, api.OK},
		{"with a short one, that one", of(0, 0, 10, -20), []int{95, 50}, 1, 47, api.OK},
		{"the least price", of(0, -10, 10), []int{100}, 0, 1, api.OK},
		{"between 0 and the least price", of(0, -1, 10), []int{100}, 0, 1, api.OK},
		{"0, long", of(0, 0, 10), []int{100}, 0, 1, api.OK},
		{"below 0, long", of(0, 100, 10), []int{100}, 0, 1, api.OK},
		{"0, short", of(0, 0, -10), []int{100}, 0, 1, api.OK},
		{"between 0 and the least price, short", of(0, 9, -10), []int{100}, 0, 1, api.OK},
		{"the least price, short", of(0, 19, -10), []int{100}, 0, 1, api.OK},
		{"below 0, short", of(0, -1, -10), []int{100}, 0, 1, api.OK},
		{"the greatest price", of(0, -10*dearest, 10), []int{100}, 0, dearest, api.OK},
		{"above it, long", of(0, -10*dearest-1, 10), []int{100}, 0, dearest, api.OK},
		{"just below it, long", of(0, -10*dearest+10, 10), []int{100}, 0, dearest - 1, api.OK},
		{"the greatest price, short", of(0, 10*dearest+9, -10), []int{100}, 0, dearest, api.OK},
		{"above it, short", of(0, 10*dearest+10, -10), []int{100}, 0, dearest, api.OK},
		{"just below it, short", of(0, 10*dearest-1, -10), []int{100}, 0, dearest - 1, api.OK},
		{"the least Balance, long", of(0, -most, 1), []int{1}, 0, dearest, api.OK},
		{"the least Balance, the longest", of(0, -most, greatest), []int{1}, 0, dearest, api.OK},
		{"the greatest Balance, short", of(0, most, -1), []int{1}, 0, dearest, api.OK},
		{"the greatest Balance, long", of(0, most-1, 1), []int{1}, 0, 1, api.OK},
		{"the least Balance, short", of(0, 1-most, -1), []int{1}, 0, 1, api.OK},
		// Without the position that is asked for, what these have is no amount.
		{"a debt beyond amounts", of(0, -most, 1, -1), []int{1, 1}, 0, dearest, api.OK},
		{"more than amounts", of(0, most, -1, 1), []int{1, 1}, 0, dearest, api.OK},
		{"far more than amounts", of(0, most, -greatest, greatest), []int{dearest, dearest}, 0, dearest, api.OK},
		{"a debt far beyond amounts", of(0, -most, greatest, -greatest), []int{dearest, dearest}, 0, dearest, api.OK},
		{"no position", of(0, 5, 0), []int{100}, 0, 0, api.ErrReduce},
		{"no position here", of(0, 5, 3, 0), []int{100, 100}, 1, 0, api.ErrReduce},
		{"a market below", long(), []int{100}, -1, 0, api.ErrWho},
		{"a market above", long(), []int{100}, 1, 0, api.ErrWho},
		{"a market above, of two", of(0, 5, 3, 4), []int{100, 100}, 2, 0, api.ErrWho},
		{"the least int as market", long(), []int{100}, math.MinInt, 0, api.ErrWho},
		{"the greatest int as market", long(), []int{100}, math.MaxInt, 0, api.ErrWho},
		{"who ahead of no position", of(0, 5, 0), []int{100}, 1, 0, api.ErrWho},
	} {
		if got, e := Bankrupt(c.a, c.marks, c.market); got != c.want || e != c.e {
			t.Errorf("%s: Bankrupt(%v, %v, %d) = %d, %d, want %d, %d", c.name, c.a, c.marks, c.market, got, e, c.want, c.e)
		}
	}
}

// plainBankrupt tries all prices, far beyond those that may be.
func plainBankrupt(rest, position int) int {
	price, least := 0, math.MaxInt
	for p := -3 * dearest; p <= 3*dearest; p++ {
		if has := rest + position*p; has >= 0 && has < least {
			price, least = p, has
		}
	}
	return max(1, min(dearest, price))
}

func TestBankruptByTrying(t *testing.T) {
	r := rand.New(rand.NewSource(53))
	for range 400 {
		position := 1 + r.Intn(greatest)
		if r.Intn(2) == 0 {
			position = -position
		}
		other := r.Intn(21) - 10
		marks := []int{r.Intn(dearest + 1), r.Intn(dearest + 1)}
		// So that the price that is looked for is among those that are tried.
		rest := position*(2*dearest-r.Intn(4*dearest)) + r.Intn(greatest)
		a := of(r.Intn(api.MaxAccounts), rest-other*marks[1], position, other)
		want := plainBankrupt(rest, position)
		if got, e := Bankrupt(a, marks, 0); got != want || e != api.OK {
			t.Fatalf("Bankrupt(%v, %v, 0) = %d, %d, want %d", a, marks, got, e, want)
		}
		slices.Reverse(a.Pos)
		slices.Reverse(marks)
		if got, e := Bankrupt(a, marks, 1); got != want || e != api.OK {
			t.Fatalf("Bankrupt(%v, %v, 1) = %d, %d, want %d", a, marks, got, e, want)
		}
	}
}

// chance answers an account that may be, its equity near to what it wants, and marks for it.
func chance(r *rand.Rand) (api.Account, []int) {
	a := of(r.Intn(api.MaxAccounts), 0)
	var marks []int
	for range 1 + r.Intn(api.MaxMarkets) {
		size := 1 + r.Intn(greatest)
		a.Pos = append(a.Pos, r.Intn(2*size+1)-size)
		marks = append(marks, r.Intn(1+r.Intn(dearest+1)))
	}
	initial, _, _ := Margins(a, marks)
	equity, _ := account.Equity(a, marks)
	a.Balance = r.Intn(initial+initial/2+3) - 1 - equity
	return a, marks
}

// P5.4: whoever has what they want to begin has what they want to go on.
func TestWhoMayBeginGoesOn(t *testing.T) {
	r := rand.New(rand.NewSource(54))
	seen := map[[2]bool]int{}
	for range 50000 {
		a, marks := chance(r)
		initial, maintenance, e := Margins(a, marks)
		if e != api.OK || maintenance > initial || maintenance*2 < initial {
			t.Fatalf("Margins(%v, %v) = %d, %d, %d", a, marks, initial, maintenance, e)
		}
		equity, e := account.Equity(a, marks)
		if e != api.OK {
			t.Fatalf("Equity(%v, %v): %d", a, marks, e)
		}
		begin, goesOn, e := Sound(a, marks)
		if e != api.OK || begin && !goesOn || begin != (equity >= initial) || goesOn != (equity >= maintenance) {
			t.Fatalf("Sound(%v, %v) = %v, %v, %d", a, marks, begin, goesOn, e)
		}
		seen[[2]bool{begin, goesOn}]++
	}
	if len(seen) != 3 {
		t.Errorf("not all that may be was seen: %v", seen)
	}
}

// roomy answers a list with spare room behind it, and that memory, whole.
func roomy[T any](l []T, spare ...T) (list, room []T) {
	room = append(slices.Clone(l), spare...)
	return room[:len(l)], room
}

func TestOnlyReads(t *testing.T) {
	a := of(3, -900, 10, -4)
	var room []int
	a.Pos, room = roomy(a.Pos, 77, 78)
	marks, markRoom := roomy([]int{100, 1}, 81, 82)
	kept, keptMarks := slices.Clone(room), slices.Clone(markRoom)
	for range 2 {
		if initial, maintenance, e := Margins(a, marks); initial != 101 || maintenance != 51 || e != api.OK {
			t.Errorf("Margins = %d, %d, %d", initial, maintenance, e)
		}
		if begin, goesOn, e := Sound(a, marks); begin || !goesOn || e != api.OK {
			t.Errorf("Sound = %v, %v, %d", begin, goesOn, e)
		}
		if got, e := Bankrupt(a, marks, 0); got != 91 || e != api.OK {
			t.Errorf("Bankrupt = %d, %d", got, e)
		}
	}
	if !slices.Equal(room, kept) || !slices.Equal(markRoom, keptMarks) {
		t.Errorf("what was handed in was changed: %v, %v", room, markRoom)
	}
}

func TestMarksOnlyReads(t *testing.T) {
	m := market(100, 104, 101, 103)
	var bids, asks []api.Order
	m.B.Bids, bids = roomy(m.B.Bids, bid(50, 50))
	m.B.Asks, asks = roomy(m.B.Asks, ask(51, 51))
	l, room := roomy([]api.Market{m, market(39, 60, 60, 62)}, market(7, 7, 0, 0))
	keptBids, keptAsks := slices.Clone(bids), slices.Clone(asks)
	first, e1 := Marks(l)
	second, e2 := Marks(l)
	if e1 != api.OK || e2 != api.OK || !slices.Equal(first, second) {
		t.Fatalf("%v, %d, then %v, %d", first, e1, second, e2)
	}
	first[0] = 1
	if !slices.Equal(second, []int{102, 40}) {
		t.Errorf("two answers share memory: %v", second)
	}
	if !slices.Equal(bids, keptBids) || !slices.Equal(asks, keptAsks) || !book.Same(room[0].B, m.B) || room[2].Index != 7 {
		t.Errorf("what was handed in was changed: %v, %v, %v", bids, asks, room)
	}
}
