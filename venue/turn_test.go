package venue

import (
	"math"
	"slices"
	"testing"

	"tollbooth/api"
)

func deposit(account, n int) api.Command {
	return api.Command{Kind: api.Deposit, Account: account, N: n}
}

func withdraw(account, n int) api.Command {
	return api.Command{Kind: api.Withdraw, Account: account, N: n}
}

func place(account, market, side, qty, price, how int) api.Command {
	return api.Command{
		Kind: api.Place, Account: account, Market: market, How: how,
		O: api.Order{Side: side, Price: price, Qty: qty},
	}
}

func reduce(account, market, side, qty, price int) api.Command {
	c := place(account, market, side, qty, price, api.Now)
	c.Reduce = true
	return c
}

func cancel(account, id int) api.Command {
	return api.Command{Kind: api.Cancel, Account: account, N: id}
}

func index(market, n int) api.Command { return api.Command{Kind: api.Index, Market: market, N: n} }

func funding(market, n int) api.Command { return api.Command{Kind: api.Fund, Market: market, N: n} }

func sweep() api.Command { return api.Command{Kind: api.Sweep} }

func rejected(e api.Errno) api.Event { return api.Event{Kind: api.Rejected, E: e} }

func moved(account, n int) api.Event { return api.Event{Kind: api.Moved, Account: account, N: n} }

func accepted(market, id, account int) api.Event {
	return api.Event{Kind: api.Accepted, Market: market, ID: id, Account: account}
}

func gone(market, id, account, n int) api.Event {
	return api.Event{Kind: api.Gone, Market: market, ID: id, Account: account, N: n}
}

func filled(market int, f api.Fill) api.Event {
	return api.Event{Kind: api.Filled, Market: market, F: f}
}

// fillOf: all of the maker, as it stands here, is taken.
func fillOf(maker api.Order, taker, account int) api.Fill {
	return api.Fill{
		Maker: maker.ID, MakerAccount: maker.Account, Taker: taker, TakerAccount: account,
		Side: -maker.Side, Price: maker.Price, Qty: maker.Qty,
	}
}

// desk answers a venue of two markets, with some orders, and three accounts of 1000 each.
func desk() api.Venue {
	return opened([]api.Market{
		{
			Index: 100,
			B: api.Book{
				Bids: []api.Order{bid(3, 1, 98, 4), bid(4, 2, 97, 4)},
				Asks: []api.Order{ask(1, 1, 100, 3), ask(2, 2, 101, 4)},
			},
		},
		{Index: 50},
	}, 0, of(0, 1000, 0, 0), of(1, 1000, 0, 0), of(2, 1000, 0, 0))
}

// does does a command, and holds against the answer what holds for every one.
func does(t *testing.T, v api.Venue, c api.Command) (api.Venue, []api.Event) {
	t.Helper()
	w, events, e := Do(v, c)
	if e != api.OK || Check(w) != api.OK {
		t.Fatalf("%+v of %+v: %d, a venue of %d", c, v, e, Check(w))
	}
	if len(events) > 0 && events[0].Kind == api.Rejected && (len(events) > 1 || !Same(v, w)) {
		t.Errorf("%+v: it is rejected, but leaves something: %v, %+v", c, events, w)
	}
	return w, events
}

type doCase struct {
	name   string
	v      api.Venue
	c      api.Command
	want   []api.Event
	change func(*api.Venue)
}

func runCases(t *testing.T, l []doCase) {
	t.Helper()
	for _, c := range l {
		got, events := does(t, c.v, c.c)
		if !slices.Equal(events, c.want) {
			t.Errorf("%s: %+v, want %+v", c.name, events, c.want)
		}
		if want := changed(c.v, c.change); !Same(got, want) {
			t.Errorf("%s: %+v, want %+v", c.name, got, want)
		}
	}
}

type rejectCase struct {
	name string
	v    api.Venue
	c    api.Command
	want api.Errno
}

func runRejects(t *testing.T, l []rejectCase) {
	t.Helper()
	for _, c := range l {
		if _, events := does(t, c.v, c.c); !slices.Equal(events, []api.Event{rejected(c.want)}) {
			t.Errorf("%s: %+v, want it rejected with %d", c.name, events, c.want)
		}
	}
}

// isRejected: is it, with this? OK: is it not?
func isRejected(t *testing.T, v api.Venue, c api.Command, want api.Errno) bool {
	t.Helper()
	_, events := does(t, v, c)
	if want == api.OK {
		return len(events) == 0 || events[0].Kind != api.Rejected
	}
	return slices.Equal(events, []api.Event{rejected(want)})
}

func TestKinds(t *testing.T) {
	for _, kind := range []int{0, -1, 8, math.MinInt, math.MaxInt} {
		if !isRejected(t, full(), api.Command{Kind: kind, N: 1}, api.ErrForm) {
			t.Errorf("kind %d is done", kind)
		}
	}
}

func TestDeposit(t *testing.T) {
	runCases(t, []doCase{
		{"to one that is there", full(), deposit(2, 50), []api.Event{moved(2, 50)}, func(v *api.Venue) {
			v.Accounts[1].Balance += 50
			v.In += 50
		}},
		{"one in between", full(), deposit(3, 50), []api.Event{moved(3, 50)}, func(v *api.Venue) {
			v.Accounts = slices.Insert(v.Accounts, 2, of(3, 50, 0, 0))
			v.In += 50
		}},
		{"the last one", full(), deposit(7, 1), []api.Event{moved(7, 1)}, func(v *api.Venue) {
			v.Accounts = append(v.Accounts, of(7, 1, 0, 0))
			v.In++
		}},
		{"the first one", opened([]api.Market{{Index: 9}}, 0, of(1, 5, 0)), deposit(0, 2), []api.Event{moved(0, 2)}, func(v *api.Venue) {
			v.Accounts = []api.Account{of(0, 2, 0), of(1, 5, 0)}
			v.In = 7
		}},
		{"the most", opened([]api.Market{{Index: 9}}, 0), deposit(4, most), []api.Event{moved(4, most)}, func(v *api.Venue) {
			v.Accounts = []api.Account{of(4, most, 0)}
			v.In = most
		}},
		{"one that stays below 0", full(), deposit(0, 9), []api.Event{moved(0, 9)}, func(v *api.Venue) {
			v.Accounts[0].Balance = -871
			v.In += 9
		}},
		{"what it has no use for", full(), api.Command{Kind: api.Deposit, Account: 2, N: 1, Market: 9, How: 9, Reduce: true, O: bid(-1, -1, -1, -1)},
			[]api.Event{moved(2, 1)}, func(v *api.Venue) {
				v.Accounts[1].Balance++
				v.In++
			}},
	})
	rich := opened([]api.Market{{Index: 9}}, 0, of(0, most, 0), of(1, -100, 0))
	runRejects(t, []rejectCase{
		{"nothing", full(), deposit(2, 0), api.ErrRange},
		{"below 0", full(), deposit(2, -1), api.ErrRange},
		{"too much", full(), deposit(2, most+1), api.ErrRange},
		{"the least int", full(), deposit(2, math.MinInt), api.ErrRange},
		{"the greatest int", full(), deposit(2, math.MaxInt), api.ErrRange},
		{"nobody", full(), deposit(-1, 5), api.ErrWho},
		{"no such one", full(), deposit(api.MaxAccounts, 5), api.ErrWho},
		{"range ahead of who", full(), deposit(-1, 0), api.ErrRange},
		{"who ahead of In", full(), deposit(-1, most), api.ErrWho},
		{"In is full", full(), deposit(2, most-1029), api.ErrFull},
		{"a new one, and In is full", full(), deposit(3, most), api.ErrFull},
		{"the Balance is full", rich, deposit(0, 50), api.ErrFull},
	})
	if !isRejected(t, rich, deposit(1, 100), api.OK) || !isRejected(t, rich, deposit(1, 101), api.ErrFull) {
		t.Error("up to the most of In")
	}
}

func TestWithdraw(t *testing.T) {
	// At the mark 100, 10 want 100 to begin.
	long := opened([]api.Market{{Index: 100}}, 0, of(0, -800, 10), of(1, 1500, -10))
	runCases(t, []doCase{
		{"some", full(), withdraw(5, 50), []api.Event{moved(5, -50)}, func(v *api.Venue) {
			v.Accounts[2].Balance -= 50
			v.Out += 50
		}},
		{"all that it can", long, withdraw(0, 100), []api.Event{moved(0, -100)}, func(v *api.Venue) {
			v.Accounts[0].Balance = -900
			v.Out = 100
		}},
		{"all of it", desk(), withdraw(0, 1000), []api.Event{moved(0, -1000)}, func(v *api.Venue) {
			v.Accounts[0].Balance = 0
			v.Out = 1000
		}},
		// Its orders that rest want nothing here.
		{"with orders", desk(), withdraw(1, 1000), []api.Event{moved(1, -1000)}, func(v *api.Venue) {
			v.Accounts[1].Balance = 0
			v.Out = 1000
		}},
	})
	out := changed(desk(), func(v *api.Venue) { v.In, v.Out = most, most-3000 })
	poor := opened([]api.Market{{Index: 9}}, 0, of(0, -most, 0), of(1, most, 0))
	worth := opened([]api.Market{{Index: 100}}, 0, of(0, most, 10), of(1, -most, -10))
	runRejects(t, []rejectCase{
		{"nothing", full(), withdraw(5, 0), api.ErrRange},
		{"below 0", full(), withdraw(5, -1), api.ErrRange},
		{"too much", full(), withdraw(5, most+1), api.ErrRange},
		{"the least int", full(), withdraw(5, math.MinInt), api.ErrRange},
		{"nobody", full(), withdraw(-1, 5), api.ErrWho},
		{"no such one", full(), withdraw(api.MaxAccounts, 5), api.ErrWho},
		{"one that isn't there", full(), withdraw(3, 5), api.ErrWho},
		{"range ahead of who", full(), withdraw(3, 0), api.ErrRange},
		{"who ahead of Out", full(), withdraw(3, most), api.ErrWho},
		{"Out ahead of margin", full(), withdraw(5, most), api.ErrFull},
		{"Out is full", changed(out, func(v *api.Venue) { v.In, v.Accounts[0].Balance, v.Out = most, -2000, most }), withdraw(1, 1), api.ErrFull},
		{"the Balance is full", poor, withdraw(0, 1), api.ErrFull},
		{"what it is worth is no amount", worth, withdraw(0, 1), api.ErrFull},
		{"more than it can", long, withdraw(0, 101), api.ErrMargin},
		{"more than it has", desk(), withdraw(0, 1001), api.ErrMargin},
		{"it had too little ahead", full(), withdraw(0, 999), api.ErrMargin},
	})
	if !isRejected(t, out, withdraw(0, 1000), api.OK) {
		t.Error("up to the most of Out")
	}
}

func TestPlaceKinds(t *testing.T) {
	rests := func(o api.Order) func(*api.Venue) {
		return func(v *api.Venue) {
			v.Next++
			side := &v.Markets[0].B.Bids
			if o.Side == api.Sell {
				side = &v.Markets[0].B.Asks
			}
			*side = slices.Insert(*side, 0, o)
		}
	}
	first, second := ask(1, 1, 100, 3), ask(2, 2, 101, 2)
	takes := func(v *api.Venue) {
		v.Next++
		v.Accounts = []api.Account{of(0, 1000-300-1-202-1, 5, 0), of(1, 1300, -3, 0), of(2, 1202, -2, 0)}
		v.Insurance = 2
		v.Markets[0].Last = 101
		v.Markets[0].B.Asks = []api.Order{ask(2, 2, 101, 2)}
	}
	fills := []api.Event{accepted(0, 50, 0), filled(0, fillOf(first, 50, 0)), filled(0, fillOf(second, 50, 0))}
	all := append(slices.Clone(fills[:2]), filled(0, fillOf(ask(2, 2, 101, 4), 50, 0)))
	takesAll := func(v *api.Venue) {
		takes(v)
		v.Accounts[0], v.Accounts[2] = of(0, 1000-300-1-404-1, 7, 0), of(2, 1404, -4, 0)
		v.Markets[0].B.Asks = nil
	}
	runCases(t, []doCase{
		{"a limit rests", desk(), place(0, 0, api.Buy, 5, 99, api.Limit), []api.Event{accepted(0, 50, 0)}, rests(bid(50, 0, 99, 5))},
		{"a sale rests", desk(), place(0, 0, api.Sell, 5, 99, api.Limit), []api.Event{accepted(0, 50, 0)}, rests(ask(50, 0, 99, 5))},
		{"a post rests", desk(), place(0, 0, api.Buy, 5, 99, api.Post), []api.Event{accepted(0, 50, 0)}, rests(bid(50, 0, 99, 5))},
		{"a limit takes", desk(), place(0, 0, api.Buy, 5, 101, api.Limit), fills, takes},
		{"now takes", desk(), place(0, 0, api.Buy, 5, 101, api.Now), fills, takes},
		{"whole takes", desk(), place(0, 0, api.Buy, 5, 101, api.Whole), fills, takes},
		{"a limit takes, and rests", desk(), place(0, 0, api.Buy, 9, 101, api.Limit), all, func(v *api.Venue) {
			takesAll(v)
			v.Markets[0].B.Bids = slices.Insert(v.Markets[0].B.Bids, 0, bid(50, 0, 101, 2))
		}},
		{"now takes, and goes", desk(), place(0, 0, api.Buy, 9, 102, api.Now), append(slices.Clone(all), gone(0, 50, 0, 2)), takesAll},
		{"now takes nothing", desk(), place(0, 0, api.Buy, 9, 99, api.Now), []api.Event{accepted(0, 50, 0), gone(0, 50, 0, 9)}, func(v *api.Venue) { v.Next++ }},
		{"the other market", desk(), place(2, 1, api.Sell, 1, 60, api.Limit), []api.Event{accepted(1, 50, 2)}, func(v *api.Venue) {
			v.Next++
			v.Markets[1].B.Asks = []api.Order{ask(50, 2, 60, 1)}
		}},
		{"ID and Account of the order don't count", desk(), api.Command{
			Kind: api.Place, Account: 2, Market: 1, O: api.Order{ID: -5, Account: 99, Side: api.Buy, Price: 40, Qty: 1}, How: api.Limit, N: -1,
		}, []api.Event{accepted(1, 50, 2)}, func(v *api.Venue) {
			v.Next++
			v.Markets[1].B.Bids = []api.Order{bid(50, 2, 40, 1)}
		}},
	})
	runRejects(t, []rejectCase{
		{"a post that takes", desk(), place(0, 0, api.Buy, 1, 100, api.Post), api.ErrPost},
		{"a post that meets its own", desk(), place(1, 0, api.Buy, 1, 100, api.Post), api.ErrPost},
		{"a limit that meets its own", desk(), place(2, 0, api.Buy, 4, 101, api.Limit), api.ErrSelf},
		{"now that meets its own", desk(), place(2, 0, api.Buy, 4, 101, api.Now), api.ErrSelf},
		{"not the whole", desk(), place(0, 0, api.Buy, 8, 101, api.Whole), api.ErrAll},
		{"its own ahead of margin", desk(), place(1, 0, api.Buy, 999, 5000, api.Limit), api.ErrSelf},
		{"not the whole, ahead of margin", desk(), place(0, 0, api.Buy, 999, 5000, api.Whole), api.ErrAll},
	})
}

func TestPlaceSells(t *testing.T) {
	sells := []api.Event{accepted(0, 50, 0), filled(0, fillOf(bid(3, 1, 98, 4), 50, 0)), filled(0, fillOf(bid(4, 2, 97, 1), 50, 0))}
	runCases(t, []doCase{{"it sells", desk(), place(0, 0, api.Sell, 5, 90, api.Now), sells, func(v *api.Venue) {
		v.Next++
		v.Accounts = []api.Account{of(0, 1000+392-1+97-1, -5, 0), of(1, 608, 4, 0), of(2, 903, 1, 0)}
		v.Insurance = 2
		v.Markets[0].Last = 97
		v.Markets[0].B.Bids = []api.Order{bid(4, 2, 97, 3)}
	}}})
}

func TestPlaceFees(t *testing.T) {
	v := opened([]api.Market{{Index: 1000, B: api.Book{Asks: []api.Order{ask(1, 1, 1000, 20), ask(2, 1, 1001, 20)}}}}, 7, of(0, 9000, 0), of(1, 9000, 0))
	w, _ := does(t, v, place(0, 0, api.Buy, 30, 1001, api.Now))
	// 20000 at five of ten thousand, and 10010, rounded up.
	if w.Insurance != 7+10+6 || w.Accounts[0].Balance != 9000-20000-10-10010-6 || w.Accounts[1].Balance != 9000+30010 {
		t.Errorf("%+v", w)
	}
}

func TestPlaceMargins(t *testing.T) {
	alone := func(balance int, l ...api.Order) api.Venue {
		return opened([]api.Market{{Index: 100, B: api.Book{Asks: l}}, {Index: 100}}, 0, of(0, balance, 0, 0), of(1, 0, 0, 0))
	}
	// The bid at 102 makes the middle of the book 103; the mark is 100 without it.
	moves := func(balance int) api.Venue {
		return changed(alone(balance, ask(1, 1, 104, 5)), func(v *api.Venue) { v.Markets[0].Last = 104 })
	}
	// The fill at 105 is the last price; so the mark is 102, the middle of a book of 99 and 105, and 100 ahead.
	lasts := func(balance int) api.Venue {
		return changed(alone(balance, ask(1, 1, 105, 20)), func(v *api.Venue) {
			v.Markets[0].B.Bids = []api.Order{bid(2, 1, 99, 5)}
		})
	}
	holds := func(balance int) api.Venue {
		return changed(alone(balance), func(v *api.Venue) { v.Accounts[0].Pos[1], v.Accounts[1].Pos[1] = 10, -10 })
	}
	for _, c := range []struct {
		name   string
		v      func(enough int) api.Venue
		c      api.Command
		enough int
	}{
		{"it rests", func(n int) api.Venue { return alone(n) }, place(0, 0, api.Buy, 10, 100, api.Limit), 100},
		{"a sale rests", func(n int) api.Venue { return alone(n) }, place(0, 0, api.Sell, 10, 100, api.Post), 100},
		{"it rests above the mark", func(n int) api.Venue { return alone(n) }, place(0, 0, api.Buy, 10, 105, api.Limit), 150},
		{"it rests below the mark", func(n int) api.Venue { return alone(n) }, place(0, 0, api.Buy, 10, 95, api.Limit), 50},
		{"a sale below the mark", func(n int) api.Venue { return alone(n) }, place(0, 0, api.Sell, 10, 95, api.Limit), 150},
		{"it takes, and pays the fee", func(n int) api.Venue { return alone(n, ask(1, 1, 100, 10)) }, place(0, 0, api.Buy, 10, 100, api.Now), 101},
		{"half is taken, half rests", func(n int) api.Venue { return alone(n, ask(1, 1, 100, 5)) }, place(0, 0, api.Buy, 10, 100, api.Limit), 101},
		{"what goes wants nothing", func(n int) api.Venue { return alone(n, ask(1, 1, 100, 5)) }, place(0, 0, api.Buy, 900, 100, api.Now), 51},
		{"it moves the mark", moves, place(0, 0, api.Buy, 10, 102, api.Limit), 93},
		{"its fill moves the mark", lasts, place(0, 0, api.Buy, 10, 105, api.Now), 102 + 30 + 1},
		{"what it has elsewhere", holds, place(0, 0, api.Buy, 10, 100, api.Limit), 200 - 1000},
		{"a market more", holds, place(0, 1, api.Buy, 10, 100, api.Limit), 200 - 1000},
		{"a market less", holds, place(0, 1, api.Sell, 4, 100, api.Limit), 60 - 1000},
		{"nothing is done, but it isn't ready", holds, place(0, 0, api.Buy, 1, 100, api.Now), 100 - 1000},
	} {
		if !isRejected(t, c.v(c.enough), c.c, api.OK) || !isRejected(t, c.v(c.enough-1), c.c, api.ErrMargin) {
			_, enough, _ := Do(c.v(c.enough), c.c)
			_, less, _ := Do(c.v(c.enough-1), c.c)
			t.Errorf("%s: with %d: %+v, with less: %+v", c.name, c.enough, enough, less)
		}
	}
}

func TestPlaceAsksThisOrderAlone(t *testing.T) {
	v := opened([]api.Market{{Index: 100}}, 0, of(0, 100, 0), of(1, 0, 0))
	for range 3 {
		w, events := does(t, v, place(0, 0, api.Buy, 10, 100, api.Limit))
		if events[0].Kind != api.Accepted {
			t.Fatalf("%+v", events)
		}
		v = w
	}
	// Who rested isn't asked again, and isn't asked at all when it is taken from.
	v, _ = does(t, v, deposit(1, 400))
	v, events := does(t, v, place(1, 0, api.Sell, 30, 100, api.Now))
	if len(events) != 4 || v.Accounts[0].Balance != -2900 || v.Accounts[0].Pos[0] != 30 {
		t.Errorf("%+v, %+v", events, v)
	}
}

func TestPlaceErrorsInOrder(t *testing.T) {
	last := changed(desk(), func(v *api.Venue) { v.Next = api.MaxID })
	with := func(c api.Command, change func(*api.Command)) api.Command {
		change(&c)
		return c
	}
	good := place(0, 0, api.Buy, 1, 99, api.Limit)
	runRejects(t, []rejectCase{
		{"no such account", desk(), with(good, func(c *api.Command) { c.Account = -1 }), api.ErrWho},
		{"an account too great", desk(), with(good, func(c *api.Command) { c.Account = api.MaxAccounts }), api.ErrWho},
		{"no such account ahead of its side", desk(), with(good, func(c *api.Command) { c.Account, c.O.Side = -1, 0 }), api.ErrWho},
		{"no side", desk(), with(good, func(c *api.Command) { c.O.Side = 0 }), api.ErrForm},
		{"the side ahead of the price", desk(), with(good, func(c *api.Command) { c.O.Side, c.O.Price = 2, 0 }), api.ErrForm},
		{"no price", desk(), with(good, func(c *api.Command) { c.O.Price = 0 }), api.ErrRange},
		{"a price too great", desk(), with(good, func(c *api.Command) { c.O.Price = dearest + 1 }), api.ErrRange},
		{"no quantity", desk(), with(good, func(c *api.Command) { c.O.Qty = 0 }), api.ErrRange},
		{"a quantity too great", desk(), with(good, func(c *api.Command) { c.O.Qty = api.MaxQty + 1 }), api.ErrRange},
		{"the order ahead of Reduce", desk(), with(good, func(c *api.Command) { c.O.Qty, c.Reduce = 0, true }), api.ErrRange},
		{"the order ahead of its account", desk(), with(good, func(c *api.Command) { c.O.Qty, c.Account = 0, 5 }), api.ErrRange},
		{"Reduce of a limit", desk(), with(good, func(c *api.Command) { c.Reduce = true }), api.ErrForm},
		{"Reduce of a whole", desk(), with(good, func(c *api.Command) { c.Reduce, c.How = true, api.Whole }), api.ErrForm},
		{"Reduce of no kind", desk(), with(good, func(c *api.Command) { c.Reduce, c.How = true, 0 }), api.ErrForm},
		{"Reduce of a limit ahead of who", desk(), with(good, func(c *api.Command) { c.Reduce, c.Account = true, 5 }), api.ErrForm},
		{"an account that isn't there", desk(), with(good, func(c *api.Command) { c.Account = 5 }), api.ErrWho},
		{"a market that isn't there", desk(), with(good, func(c *api.Command) { c.Market = 2 }), api.ErrWho},
		{"a market below 0", desk(), with(good, func(c *api.Command) { c.Market = -1 }), api.ErrWho},
		{"the least int as market", desk(), with(good, func(c *api.Command) { c.Market = math.MinInt }), api.ErrWho},
		{"who ahead of full", last, with(good, func(c *api.Command) { c.Account = 5 }), api.ErrWho},
		{"the market ahead of full", last, with(good, func(c *api.Command) { c.Market = 2 }), api.ErrWho},
		{"who ahead of the kind", desk(), with(good, func(c *api.Command) { c.Market, c.How = 2, 0 }), api.ErrWho},
		{"no number is left", last, good, api.ErrFull},
		{"that ahead of Reduce", last, reduce(0, 0, api.Buy, 1, 99), api.ErrFull},
		{"that ahead of the kind", last, with(good, func(c *api.Command) { c.How = 0 }), api.ErrFull},
		{"nothing to reduce", desk(), reduce(0, 0, api.Buy, 1, 99), api.ErrReduce},
		{"that ahead of its own", desk(), reduce(1, 0, api.Buy, 1, 100), api.ErrReduce},
		{"no kind", desk(), with(good, func(c *api.Command) { c.How = 0 }), api.ErrForm},
		{"a kind too great", desk(), with(good, func(c *api.Command) { c.How = api.Post + 1 }), api.ErrForm},
		{"the kind ahead of its own", desk(), place(1, 0, api.Buy, 1, 100, 0), api.ErrForm},
	})
}

func TestPlaceLastNumber(t *testing.T) {
	v := changed(desk(), func(v *api.Venue) { v.Next = api.MaxID - 1 })
	v, events := does(t, v, place(0, 0, api.Buy, 1, 99, api.Limit))
	if !slices.Equal(events, []api.Event{accepted(0, api.MaxID-1, 0)}) || v.Next != api.MaxID {
		t.Errorf("%+v, %+v", events, v)
	}
	for _, c := range []api.Command{deposit(0, 1), cancel(0, api.MaxID-1), sweep(), funding(0, 1), withdraw(0, 1)} {
		if !isRejected(t, v, c, api.OK) {
			t.Errorf("%+v is rejected", c)
		}
	}
}

func TestPlaceFull(t *testing.T) {
	crowd := func(n int) api.Venue {
		var l []api.Order
		for i := range n {
			l = append(l, bid(i+1, 1, 90, 1))
		}
		return opened([]api.Market{{Index: 100, B: api.Book{Bids: l}}}, 0, of(0, 1000, 0), of(1, 0, 0))
	}
	heavy := func(taker, maker, insurance int) api.Venue {
		v := opened([]api.Market{{Index: 100, B: api.Book{Asks: []api.Order{ask(1, 1, 100, 5)}}}}, insurance,
			of(0, 100000, taker), of(1, 100000-insurance, maker), of(2, 0, -taker-maker))
		return v
	}
	rich := func(balance int) api.Venue {
		return opened([]api.Market{{Index: 100, B: api.Book{Asks: []api.Order{ask(1, 1, 100, 5)}}}}, 0,
			of(0, 1000, 0), of(1, balance, 0), of(2, -1000, 0))
	}
	for _, c := range []struct {
		name string
		v    api.Venue
		c    api.Command
		want api.Errno
	}{
		{"the book is nearly full", crowd(api.MaxOrders - 1), place(0, 0, api.Buy, 1, 90, api.Limit), api.OK},
		{"the book is full", crowd(api.MaxOrders), place(0, 0, api.Buy, 1, 90, api.Limit), api.ErrFull},
		{"that ahead of margin", crowd(api.MaxOrders), place(0, 0, api.Buy, 999, 99, api.Limit), api.ErrFull},
		{"it is full, but nothing rests", crowd(api.MaxOrders), place(0, 0, api.Sell, 1, 90, api.Limit), api.OK},
		{"up to the greatest position", heavy(995, 0, 0), place(0, 0, api.Buy, 5, 100, api.Now), api.OK},
		{"more than that", heavy(996, 0, 0), place(0, 0, api.Buy, 5, 100, api.Now), api.ErrFull},
		{"the maker's greatest", heavy(0, -995, 0), place(0, 0, api.Buy, 5, 100, api.Now), api.OK},
		{"more than the maker's", heavy(0, -996, 0), place(0, 0, api.Buy, 5, 100, api.Now), api.ErrFull},
		{"what rests would be up to it", heavy(995, 0, 0), place(0, 0, api.Buy, 5, 99, api.Limit), api.OK},
		{"what rests would be more", heavy(995, 0, 0), place(0, 0, api.Buy, 6, 99, api.Limit), api.ErrFull},
		{"what goes is nothing", heavy(995, 0, 0), place(0, 0, api.Buy, 9, 99, api.Now), api.OK},
		{"up to the most of Insurance", heavy(0, 0, most-1), place(0, 0, api.Buy, 5, 100, api.Now), api.OK},
		{"more than that", heavy(0, 0, most), place(0, 0, api.Buy, 5, 100, api.Now), api.ErrFull},
		{"up to the maker's most", rich(most - 500), place(0, 0, api.Buy, 5, 100, api.Now), api.OK},
		{"more than that", rich(most - 499), place(0, 0, api.Buy, 5, 100, api.Now), api.ErrFull},
	} {
		if !isRejected(t, c.v, c.c, c.want) {
			_, events, _ := Do(c.v, c.c)
			t.Errorf("%s: %+v, want %d", c.name, events, c.want)
		}
	}
}

func TestPlaceReduce(t *testing.T) {
	// Account 0 is long 5 and has nothing to go on with, account 1 is short 5.
	v := opened([]api.Market{{Index: 100, B: api.Book{
		Bids: []api.Order{bid(1, 2, 99, 3), bid(2, 2, 98, 9)},
		Asks: []api.Order{ask(3, 2, 101, 2)},
	}}}, 0, of(0, -600, 5), of(1, 400, -5), of(2, 900, 0))
	runCases(t, []doCase{
		{"it is cut to what is there", v, reduce(0, 0, api.Sell, 700, 90), []api.Event{
			accepted(0, 50, 0), filled(0, fillOf(bid(1, 2, 99, 3), 50, 0)), filled(0, fillOf(bid(2, 2, 98, 2), 50, 0)),
		}, func(v *api.Venue) {
			v.Next++
			v.Accounts[0], v.Accounts[2] = of(0, -600+297-1+196-1, 0), of(2, 900-297-196, 5)
			v.Insurance, v.Markets[0].Last = 2, 98
			v.Markets[0].B.Bids = []api.Order{bid(2, 2, 98, 7)}
		}},
		{"less than what is there", v, reduce(0, 0, api.Sell, 1, 99), []api.Event{
			accepted(0, 50, 0), filled(0, fillOf(bid(1, 2, 99, 1), 50, 0)),
		}, func(v *api.Venue) {
			v.Next++
			v.Accounts[0], v.Accounts[2] = of(0, -600+99-1, 4), of(2, 900-99, 1)
			v.Insurance, v.Markets[0].Last = 1, 99
			v.Markets[0].B.Bids[0].Qty = 2
		}},
		{"what is left of the cut goes", v, reduce(1, 0, api.Buy, 1000, 101), []api.Event{
			accepted(0, 50, 1), filled(0, fillOf(ask(3, 2, 101, 2), 50, 1)), gone(0, 50, 1, 3),
		}, func(v *api.Venue) {
			v.Next++
			v.Accounts[1], v.Accounts[2] = of(1, 400-202-1, -3), of(2, 1102, -2)
			v.Insurance, v.Markets[0].Last = 1, 101
			v.Markets[0].B.Asks = nil
		}},
		{"nothing is there for it", v, reduce(0, 0, api.Sell, 9, 100), []api.Event{
			accepted(0, 50, 0), gone(0, 50, 0, 5),
		}, func(v *api.Venue) { v.Next++ }},
	})
	runRejects(t, []rejectCase{
		{"it buys, and is long", v, reduce(0, 0, api.Buy, 1, 101), api.ErrReduce},
		{"it sells, and is short", v, reduce(1, 0, api.Sell, 1, 99), api.ErrReduce},
		{"it has nothing", v, reduce(2, 0, api.Sell, 1, 1), api.ErrReduce},
		{"the same order, but not to reduce", v, place(0, 0, api.Sell, 1, 99, api.Now), api.ErrMargin},
		{"it meets its own", changed(v, func(v *api.Venue) { v.Markets[0].B.Bids[1].Account = 0 }), reduce(0, 0, api.Sell, 5, 90), api.ErrSelf},
	})
}

func TestCancel(t *testing.T) {
	twice := changed(full(), func(v *api.Venue) { v.Markets[1].B.Bids[0].ID = 4 })
	alike := changed(twice, func(v *api.Venue) { v.Markets[1].B.Bids[0].Account = 2 })
	dropFirst := func(market int) func(*api.Venue) {
		return func(v *api.Venue) { v.Markets[market].B.Bids = v.Markets[market].B.Bids[1:] }
	}
	runCases(t, []doCase{
		{"a bid", full(), cancel(2, 4), []api.Event{gone(0, 4, 2, 5)}, dropFirst(0)},
		{"an ask", full(), cancel(5, 5), []api.Event{gone(0, 5, 5, 1)}, func(v *api.Venue) { v.Markets[0].B.Asks = v.Markets[0].B.Asks[:1] }},
		{"in the second market", full(), cancel(5, 6), []api.Event{gone(1, 6, 5, 1)}, dropFirst(1)},
		{"an ID of two markets, the second one", twice, cancel(5, 4), []api.Event{gone(1, 4, 5, 1)}, dropFirst(1)},
		{"an ID of two markets, the first one", twice, cancel(2, 4), []api.Event{gone(0, 4, 2, 5)}, dropFirst(0)},
		{"both are its own", alike, cancel(2, 4), []api.Event{gone(0, 4, 2, 5)}, dropFirst(0)},
		// No margin is asked of it.
		{"one with too little", changed(full(), func(v *api.Venue) { v.Markets[0].Index = 50 }), cancel(0, 3), []api.Event{gone(0, 3, 0, 2)},
			func(v *api.Venue) { v.Markets[0].B.Asks = v.Markets[0].B.Asks[1:] }},
	})
	runRejects(t, []rejectCase{
		{"another's", full(), cancel(0, 4), api.ErrWho},
		{"nobody's", full(), cancel(2, 2), api.ErrWho},
		{"that of one who isn't there", full(), cancel(3, 4), api.ErrWho},
		{"that of one who can't be", full(), cancel(-1, 4), api.ErrWho},
		{"0", full(), cancel(0, 0), api.ErrWho},
		{"one that comes", full(), cancel(2, 7), api.ErrWho},
		{"the least int", full(), cancel(math.MinInt, math.MinInt), api.ErrWho},
		{"the greatest int", full(), cancel(2, math.MaxInt), api.ErrWho},
	})
	left, _ := does(t, desk(), place(0, 0, api.Buy, 2, 100, api.Now))
	if _, events := does(t, left, cancel(1, 1)); !slices.Equal(events, []api.Event{gone(0, 1, 1, 1)}) {
		t.Errorf("what is left of one: %+v", events)
	}
}

func TestIndex(t *testing.T) {
	runCases(t, []doCase{
		{"the first", full(), index(0, 1), nil, func(v *api.Venue) { v.Markets[0].Index = 1 }},
		{"the second", full(), index(1, dearest), nil, func(v *api.Venue) { v.Markets[1].Index = dearest }},
		{"as it was", full(), index(0, 100), nil, func(v *api.Venue) {}},
	})
	runRejects(t, []rejectCase{
		{"no market", full(), index(2, 5), api.ErrWho},
		{"a market below 0", full(), index(-1, 5), api.ErrWho},
		{"who ahead of range", full(), index(2, 0), api.ErrWho},
		{"0", full(), index(0, 0), api.ErrRange},
		{"too much", full(), index(1, dearest+1), api.ErrRange},
		{"below 0", full(), index(1, -1), api.ErrRange},
		{"the least int", full(), index(1, math.MinInt), api.ErrRange},
		{"the least int as market", full(), index(math.MinInt, 1), api.ErrWho},
	})
}

func TestFund(t *testing.T) {
	// The mark of the first market of full is 100.
	odd := opened([]api.Market{{Index: 100}}, 0, of(0, 9, 7), of(1, 0, -7), of(3, 0, 0))
	away := opened([]api.Market{{Index: 1000, Last: 1050, B: api.Book{
		Bids: []api.Order{bid(1, 0, 1020, 1)}, Asks: []api.Order{ask(2, 1, 1060, 1)},
	}}}, 0, of(0, 9, 10), of(1, 0, -10))
	runCases(t, []doCase{
		{"who is long pays", full(), funding(0, 10), []api.Event{moved(0, -1), moved(2, 1)}, func(v *api.Venue) {
			v.Accounts[0].Balance--
			v.Accounts[1].Balance++
		}},
		{"who is short pays", full(), funding(0, -100), []api.Event{moved(0, 10), moved(2, -10)}, func(v *api.Venue) {
			v.Accounts[0].Balance += 10
			v.Accounts[1].Balance -= 10
		}},
		{"the second market", full(), funding(1, 100), []api.Event{moved(2, -2), moved(5, 1)}, func(v *api.Venue) {
			v.Accounts[1].Balance -= 2
			v.Accounts[2].Balance++
			v.Residue++
		}},
		{"one isn't moved", odd, funding(0, 10), []api.Event{moved(0, -1)}, func(v *api.Venue) {
			v.Accounts[0].Balance = 8
			v.Residue = 1
		}},
		{"at the mark, 1040", away, funding(0, 100), []api.Event{moved(0, -104), moved(1, 104)}, func(v *api.Venue) {
			v.Accounts[0].Balance -= 104
			v.Accounts[1].Balance += 104
		}},
		{"no rate", full(), funding(0, 0), nil, func(v *api.Venue) {}},
		{"nobody is there, whatever the rate", opened([]api.Market{{Index: 9}}, 0), funding(0, 999), nil, func(v *api.Venue) {}},
	})
	lots := func(n int) api.Venue {
		return changed(odd, func(v *api.Venue) { v.Residue, v.In, v.Accounts[2].Balance = n, 9, -n })
	}
	broke := opened([]api.Market{{Index: 100}}, 0, of(0, -most, 7), of(1, most, -7))
	runRejects(t, []rejectCase{
		{"no market", full(), funding(2, 5), api.ErrWho},
		{"a market below 0", full(), funding(-1, 5), api.ErrWho},
		{"no market ahead of the rate", full(), funding(2, 101), api.ErrWho},
		{"a rate too great", full(), funding(0, api.MaxRate+1), api.ErrRange},
		{"a rate too small", full(), funding(0, -api.MaxRate-1), api.ErrRange},
		{"the least int", full(), funding(0, math.MinInt), api.ErrRange},
		{"a Balance is full", broke, funding(0, 10), api.ErrFull},
		{"Residue is full", lots(most), funding(0, 10), api.ErrFull},
	})
	if w, _ := does(t, lots(most-1), funding(0, 10)); w.Residue != most {
		t.Errorf("up to the most of Residue: %+v", w)
	}
}
