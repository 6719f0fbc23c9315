package venue

import (
	"testing"

	"tollbooth/api"
)

// closed: the account on the other side is the maker, as it were, but no orders are there.
func closed(market int, taker, maker, side, price, qty int) api.Event {
	return api.Event{Kind: api.Closed, Market: market, Account: maker, F: api.Fill{
		MakerAccount: maker, TakerAccount: taker, Side: side, Price: price, Qty: qty,
	}}
}

func swept(market int, maker api.Order, account int) api.Event {
	return filled(market, fillOf(maker, api.MaxID, account))
}

// at answers a market without orders, never traded: its mark is the Index.
func at(n int) api.Market { return api.Market{Index: n} }

func with(n int, bids, asks []api.Order) api.Market {
	return api.Market{Index: n, B: api.Book{Bids: bids, Asks: asks}}
}

func TestSweepByTheBook(t *testing.T) {
	// Account 0 has the equity 20, and wants 49. Its position is worth nothing to it at 95.
	long := opened([]api.Market{with(97,
		[]api.Order{bid(1, 3, 96, 3), bid(2, 3, 95, 2), bid(3, 3, 94, 5), bid(4, 0, 90, 1)},
		[]api.Order{ask(5, 0, 120, 2)},
	)}, 7, of(0, -950, 10), of(1, 2000, -6), of(2, 2000, -4), of(3, 900, 0))
	// The same, the other way round: 20, and it wants 49; at 100.
	short := opened([]api.Market{with(98,
		[]api.Order{bid(4, 0, 90, 1)},
		[]api.Order{ask(1, 3, 99, 4), ask(2, 3, 100, 1), ask(5, 3, 101, 2)},
	)}, 7, of(0, 1000, -10), of(1, 2000, 6), of(2, 2000, 4), of(3, 900, 0))
	runCases(t, []doCase{
		{"long", long, sweep(), []api.Event{
			gone(0, 4, 0, 1), gone(0, 5, 0, 2), swept(0, bid(1, 3, 96, 3), 0), swept(0, bid(2, 3, 95, 2), 0),
			closed(0, 0, 1, api.Sell, 95, 5),
		}, func(v *api.Venue) {
			v.Accounts = []api.Account{of(0, 3, 0), of(1, 1525, -1), of(2, 2000, -4), of(3, 900-288-190, 5)}
			v.Markets[0] = with(97, []api.Order{bid(3, 3, 94, 5)}, nil)
			v.Markets[0].Last = 95
		}},
		{"short", short, sweep(), []api.Event{
			gone(0, 4, 0, 1), swept(0, ask(1, 3, 99, 4), 0), swept(0, ask(2, 3, 100, 1), 0), closed(0, 0, 1, api.Buy, 100, 5),
		}, func(v *api.Venue) {
			v.Accounts = []api.Account{of(0, 4, 0), of(1, 2500, 1), of(2, 2000, 4), of(3, 900+396+100, -5)}
			v.Markets[0] = with(98, nil, []api.Order{ask(5, 3, 101, 2)})
			v.Markets[0].Last = 100
		}},
		{"all of it by the book", changed(long, func(v *api.Venue) { v.Markets[0].B.Bids[0].Qty = 30 }), sweep(), []api.Event{
			gone(0, 4, 0, 1), gone(0, 5, 0, 2), swept(0, bid(1, 3, 96, 10), 0),
		}, func(v *api.Venue) {
			v.Accounts[0], v.Accounts[3] = of(0, 10, 0), of(3, 900-960, 10)
			v.Markets[0].B = api.Book{Bids: []api.Order{bid(1, 3, 96, 20), bid(2, 3, 95, 2), bid(3, 3, 94, 5)}}
			v.Markets[0].Last = 96
		}},
	})
}

func TestSweepByOthers(t *testing.T) {
	// What is closed without a book doesn't count as the last price.
	market := at(100)
	market.Last = 101
	v := opened([]api.Market{market}, 0,
		of(0, 9000, -4), of(1, 9000, -6), of(2, -1590, 16), of(3, 9000, -6), of(4, 9000, 3), of(5, 9000, -3))
	runCases(t, []doCase{
		{"who has most, the first of such", v, sweep(), []api.Event{
			closed(0, 2, 1, api.Sell, 100, 6), closed(0, 2, 3, api.Sell, 100, 6), closed(0, 2, 0, api.Sell, 100, 4),
		}, func(v *api.Venue) {
			v.Accounts[0], v.Accounts[1] = of(0, 8600, 0), of(1, 8400, 0)
			v.Accounts[2], v.Accounts[3] = of(2, 10, 0), of(3, 8400, 0)
		}},
		{"less than one has", changed(v, func(v *api.Venue) {
			v.Accounts[2], v.Accounts[4] = of(2, -400, 4), of(4, 9000-1190, 15)
		}), sweep(), []api.Event{closed(0, 2, 1, api.Sell, 100, 4)}, func(v *api.Venue) {
			v.Accounts[1], v.Accounts[2] = of(1, 8600, -2), of(2, 0, 0)
		}},
	})
}

func TestSweepOfWhom(t *testing.T) {
	long := func(balance int) api.Venue {
		return opened([]api.Market{at(100)}, 0, of(0, balance, 10), of(1, 5000, -10))
	}
	nothing := func(v *api.Venue) {}
	runCases(t, []doCase{
		{"nobody is there", opened([]api.Market{at(100)}, 5), sweep(), nil, nothing},
		{"all have enough", full(), sweep(), nil, nothing},
		{"it has just enough", long(-950), sweep(), nil, nothing},
		{"one less", long(-951), sweep(), []api.Event{closed(0, 0, 1, api.Sell, 96, 10)}, func(v *api.Venue) {
			v.Accounts = []api.Account{of(0, 9, 0), of(1, 4040, 0)}
		}},
		// Who has no position isn't swept, though its orders want more than it has.
		{"orders alone", opened([]api.Market{with(100, []api.Order{bid(1, 0, 99, 900)}, nil)}, 0, of(0, 0, 0)), sweep(), nil, nothing},
		{"what it has no use for", long(-950), api.Command{Kind: api.Sweep, Account: -1, Market: 9, N: -1}, nil, nothing},
	})
}

func TestSweepOfTwoMarkets(t *testing.T) {
	// The equity is 50, and 75 is wanted.
	others := []api.Account{of(0, -1450, 10, 10), of(1, 3000, -10, 0), of(2, 3000, 0, -10), of(3, 3000, 0, 0)}
	bare := opened([]api.Market{at(100), at(50)}, 0, others...)
	// What the first market brings more, the second one may lose.
	better := opened([]api.Market{with(100, []api.Order{bid(7, 3, 98, 20), bid(1, 0, 90, 1)}, []api.Order{ask(2, 0, 150, 2), ask(3, 0, 151, 3)}),
		with(50, []api.Order{bid(4, 0, 40, 4)}, []api.Order{ask(5, 0, 90, 5)})}, 0, others...)
	second := opened([]api.Market{at(100), at(50)}, 0, of(0, -480, 0, 10), of(1, 3000, 0, 0), of(2, 3000, 0, -10))
	runCases(t, []doCase{
		{"at the marks, then as it is", bare, sweep(), []api.Event{
			closed(0, 0, 1, api.Sell, 95, 10), closed(1, 0, 2, api.Sell, 50, 10),
		}, func(v *api.Venue) {
			v.Accounts[0], v.Accounts[1], v.Accounts[2] = of(0, 0, 0, 0), of(1, 2050, 0, 0), of(2, 2500, 0, 0)
		}},
		{"its orders go first, in both", better, sweep(), []api.Event{
			gone(0, 1, 0, 1), gone(0, 2, 0, 2), gone(0, 3, 0, 3), gone(1, 4, 0, 4), gone(1, 5, 0, 5),
			swept(0, bid(7, 3, 98, 10), 0), closed(1, 0, 2, api.Sell, 47, 10),
		}, func(v *api.Venue) {
			v.Accounts[0], v.Accounts[2], v.Accounts[3] = of(0, 0, 0, 0), of(2, 2530, 0, 0), of(3, 2020, 10, 0)
			v.Markets = []api.Market{with(100, []api.Order{bid(7, 3, 98, 10)}, nil), at(50)}
			v.Markets[0].Last = 98
		}},
		{"the second alone", second, sweep(), []api.Event{closed(1, 0, 2, api.Sell, 48, 10)}, func(v *api.Venue) {
			v.Accounts[0], v.Accounts[2] = of(0, 0, 0, 0), of(2, 2520, 0, 0)
		}},
	})
}

func TestSweepByTheMarksOfWhenItBegins(t *testing.T) {
	// The mark is 100, the middle of 100, 103 and 96. By the fill at 101 it is 101: there account 1 would have 41 of the
	// 51 that it wants.
	market := with(100, []api.Order{bid(1, 2, 101, 10), bid(2, 2, 100, 1)}, []api.Order{ask(3, 2, 105, 5)})
	market.Last = 96
	v := opened([]api.Market{market}, 0, of(0, -990, 10), of(1, 1051, -10), of(2, 2000, 0))
	runCases(t, []doCase{{"one by the book", v, sweep(), []api.Event{swept(0, bid(1, 2, 101, 10), 0)}, func(v *api.Venue) {
		v.Accounts[0], v.Accounts[2] = of(0, 20, 0), of(2, 990, 10)
		v.Markets[0].B.Bids = v.Markets[0].B.Bids[1:]
		v.Markets[0].Last = 101
	}}})
	after, _ := does(t, v, sweep())
	if _, events := does(t, after, sweep()); len(events) == 0 {
		t.Error("by the marks of afterwards it has enough, too: this tests nothing")
	}
}

func TestSweepKeepsTheMarks(t *testing.T) {
	// With the ask of account 0 the second market's mark is 52, without it 50: at that, the first market's price would
	// be 97.
	second := with(50, []api.Order{bid(1, 3, 51, 1)}, []api.Order{ask(2, 0, 53, 1)})
	second.Last = 52
	v := opened([]api.Market{at(100), second}, 0, of(0, -1470, 10, 10), of(1, 3000, -10, -10), of(3, 3000, 0, 0))
	runCases(t, []doCase{{"its own order made the mark", v, sweep(), []api.Event{
		gone(1, 2, 0, 1), closed(0, 0, 1, api.Sell, 95, 10), closed(1, 0, 1, api.Sell, 52, 10),
	}, func(v *api.Venue) {
		v.Accounts[0], v.Accounts[1] = of(0, 0, 0, 0), of(1, 3000-950-520, 0, 0)
		v.Markets[1].B.Asks = nil
	}}})
}

func TestSweepInTurn(t *testing.T) {
	// The one that is closed has -100, so that who is on the other side, with 80 at the mark, is left with -20.
	v := opened([]api.Market{at(100)}, 50, of(1, -1100, 10), of(2, 1080, -10))
	// Who comes ahead of it isn't looked at again.
	ahead := opened([]api.Market{at(100)}, 50, of(0, 1080, -10), of(1, -1100, 10))
	// Account 2 has 50 of the 55 that it wants; but what closes account 1 takes the position off it.
	saved := opened([]api.Market{with(110, nil, []api.Order{ask(1, 2, 110, 10)})}, 50, of(1, 1110, -10), of(2, -1050, 10))
	runCases(t, []doCase{
		{"one behind", v, sweep(), []api.Event{closed(0, 1, 2, api.Sell, 110, 10), moved(2, 20)}, func(v *api.Venue) {
			v.Accounts = []api.Account{of(1, 0, 0), of(2, 0, 0)}
			v.Insurance = 30
		}},
		{"one ahead", ahead, sweep(), []api.Event{closed(0, 1, 0, api.Sell, 110, 10)}, func(v *api.Venue) {
			v.Accounts = []api.Account{of(0, -20, 0), of(1, 0, 0)}
		}},
		{"one that has enough by then", saved, sweep(), []api.Event{swept(0, ask(1, 2, 110, 10), 1)}, func(v *api.Venue) {
			v.Accounts = []api.Account{of(1, 10, 0), of(2, 50, 0)}
			v.Markets[0].B.Asks = nil
			v.Markets[0].Last = 110
		}},
	})
}

func TestSweepCovers(t *testing.T) {
	// No price above 0 is low enough for account 0: it pays 1 for each, and lacks 15.
	short := func(insurance int) api.Venue {
		return opened([]api.Market{at(100)}, insurance, of(0, -5, -10), of(1, 100, 10))
	}
	// No price is high enough: it gets the greatest one, and lacks 7.
	long := opened([]api.Market{at(100)}, 20, of(0, -7-10*dearest, 10), of(1, 10*dearest, -10))
	debts := opened([]api.Market{at(100)}, 20, of(0, -15, 0), of(3, -9, 0), of(4, 0, 0), of(5, -2, 0))
	closes := closed(0, 0, 1, api.Buy, 1, 10)
	after := func(balance, insurance int) func(*api.Venue) {
		return func(v *api.Venue) {
			v.Accounts, v.Insurance = []api.Account{of(0, balance, 0), of(1, 110, 0)}, insurance
		}
	}
	runCases(t, []doCase{
		{"there is more", short(40), sweep(), []api.Event{closes, moved(0, 15)}, after(0, 25)},
		{"there is just as much", short(15), sweep(), []api.Event{closes, moved(0, 15)}, after(0, 0)},
		{"there is less", short(14), sweep(), []api.Event{closes, moved(0, 14)}, after(-1, 0)},
		// The only premise that is named is a Balance below 0: so nothing, too, is moved.
		{"there is nothing", short(0), sweep(), []api.Event{closes, moved(0, 0)}, after(-15, 0)},
		{"long", long, sweep(), []api.Event{closed(0, 0, 1, api.Sell, dearest, 10), moved(0, 7)}, func(v *api.Venue) {
			v.Accounts, v.Insurance = []api.Account{of(0, 0, 0), of(1, 0, 0)}, 13
		}},
		{"debts without positions, in turn", debts, sweep(), []api.Event{moved(0, 15), moved(3, 5), moved(5, 0)}, func(v *api.Venue) {
			v.Accounts[0].Balance, v.Accounts[1].Balance, v.Insurance = 0, -4, 0
		}},
	})
}

func TestSweepErrors(t *testing.T) {
	// Account 0 is closed first, then an account's equity is no amount.
	worth := opened([]api.Market{at(100)}, 0, of(0, -990, 10), of(1, most, 10), of(2, 5000, -20), of(3, -5000, 0))
	// The bid that it would be closed by is of one that has all it may have.
	greatestOf := func(n int) api.Venue {
		return opened([]api.Market{with(100, []api.Order{bid(1, 2, 99, 10)}, nil)}, 0,
			of(0, -990, 10), of(2, 100000, n), of(3, 200000, -n), of(4, 9000, -10))
	}
	// Who is on the other side would have more than an amount; at the mark it is worth one.
	rich := func(n int) api.Venue {
		return opened([]api.Market{at(1)}, 0, of(0, 0, -10), of(1, n, 10), of(2, -n, 0))
	}
	runRejects(t, []rejectCase{
		{"an equity that is no amount", worth, sweep(), api.ErrFull},
		{"a position too great", greatestOf(991), sweep(), api.ErrFull},
		{"a Balance too great", rich(most - 9), sweep(), api.ErrFull},
	})
	for _, v := range []api.Venue{greatestOf(990), rich(most - 10)} {
		if !isRejected(t, v, sweep(), api.OK) {
			t.Errorf("%+v: it is rejected", v)
		}
	}
}
