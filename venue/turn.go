package venue

import (
	"slices"

	"tollbooth/account"
	"tollbooth/api"
	"tollbooth/book"
	"tollbooth/fix"
	"tollbooth/fund"
	"tollbooth/match"
	"tollbooth/risk"
)

// turn: a venue that a command is being done to, and what came of it so far. The venue is one that passed Check, and
// it is the turn's own, down to its lists: where a step fails, the whole turn is dropped, whatever it has done by then.
type turn struct {
	v      api.Venue
	events []api.Event
}

func (t *turn) do(c api.Command) api.Errno {
	switch c.Kind {
	case api.Deposit:
		return t.deposit(c)
	case api.Withdraw:
		return t.withdraw(c)
	case api.Place:
		return t.place(c)
	case api.Cancel:
		return t.cancel(c)
	case api.Index:
		return t.index(c)
	case api.Fund:
		return t.fund(c)
	case api.Sweep:
		return t.sweep()
	}
	return api.ErrForm
}

func (t *turn) deposit(c api.Command) api.Errno {
	if e := checkPayment(c); e != api.OK {
		return e
	}
	if e := grow(&t.v.In, c.N); e != api.OK {
		return e
	}
	return t.move(t.open(c.Account), c.N)
}

func (t *turn) withdraw(c api.Command) api.Errno {
	if e := checkPayment(c); e != api.OK {
		return e
	}
	at, there := placeOf(t.v.Accounts, c.Account)
	if !there {
		return api.ErrWho
	}
	if e := grow(&t.v.Out, c.N); e != api.OK {
		return e
	}
	if e := t.move(at, -c.N); e != api.OK {
		return e
	}
	return t.ready(t.v.Accounts[at])
}

func (t *turn) place(c api.Command) api.Errno {
	o, e := t.orderOf(c)
	if e != api.OK {
		return e
	}
	t.v.Next++
	t.tell(api.Event{Kind: api.Accepted, Market: c.Market, ID: o.ID, Account: o.Account})
	b, fills, left, e := match.Come(t.v.Markets[c.Market].B, o, c.How)
	if e != api.OK {
		return e
	}
	t.v.Markets[c.Market].B = b
	if e = t.fill(c.Market, fills, account.Fee); e != api.OK {
		return e
	}
	if left > 0 {
		t.gone(c.Market, o, left)
	}
	if c.Reduce {
		return api.OK
	}
	return t.readyWith(c.Market, o)
}

func (t *turn) cancel(c api.Command) api.Errno {
	for market, m := range t.v.Markets {
		// Two markets may have an order of one ID, so who it is of is asked in each of them.
		b, o, e := book.Remove(m.B, c.N)
		if e == api.OK && o.Account == c.Account {
			t.v.Markets[market].B = b
			t.gone(market, o, o.Qty)
			return api.OK
		}
	}
	return api.ErrWho
}

func (t *turn) index(c api.Command) api.Errno {
	switch {
	case !t.hasMarket(c.Market):
		return api.ErrWho
	case c.N < 1 || c.N > api.MaxPrice:
		return api.ErrRange
	}
	t.v.Markets[c.Market].Index = c.N
	return api.OK
}

func (t *turn) fund(c api.Command) api.Errno {
	if !t.hasMarket(c.Market) {
		return api.ErrWho
	}
	mark, e := risk.Mark(t.v.Markets[c.Market])
	if e != api.OK {
		return e
	}
	settled, left, e := fund.Settle(t.v.Accounts, c.Market, mark, c.N)
	if e != api.OK {
		return e
	}
	for i, a := range settled {
		if n := a.Balance - t.v.Accounts[i].Balance; n != 0 {
			t.moved(a.ID, n)
		}
	}
	t.v.Accounts = settled
	return grow(&t.v.Residue, left)
}

// checkPayment asks what a Deposit and a Withdraw want alike.
func checkPayment(c api.Command) api.Errno {
	switch {
	case c.N < 1 || c.N > api.MaxMoney:
		return api.ErrRange
	case c.Account < 0 || c.Account >= api.MaxAccounts:
		return api.ErrWho
	}
	return api.OK
}

// orderOf answers the order that a Place asks for. One that reduces is cut, so that it can't turn the position round.
func (t *turn) orderOf(c api.Command) (api.Order, api.Errno) {
	fail := func(e api.Errno) (api.Order, api.Errno) { return api.Order{}, e }
	o := c.O
	o.ID, o.Account = t.v.Next, c.Account
	if e := book.CheckOrder(o); e != api.OK {
		return fail(e)
	}
	if c.Reduce && c.How != api.Now {
		return fail(api.ErrForm)
	}
	at, there := placeOf(t.v.Accounts, c.Account)
	if !there || !t.hasMarket(c.Market) {
		return fail(api.ErrWho)
	}
	if t.v.Next == api.MaxID {
		return fail(api.ErrFull)
	}
	if c.Reduce {
		// Above 0, if the order is against the position.
		most := -o.Side * t.v.Accounts[at].Pos[c.Market]
		if most <= 0 {
			return fail(api.ErrReduce)
		}
		o.Qty = min(o.Qty, most)
	}
	return o, api.OK
}

// fill lets the accounts trade what their orders did.
func (t *turn) fill(market int, fills []api.Fill, feeOf func(qty, price int) (int, api.Errno)) api.Errno {
	for _, f := range fills {
		fee, e := feeOf(f.Qty, f.Price)
		if e != api.OK {
			return e
		}
		if e = t.trade(market, f, fee); e != api.OK {
			return e
		}
		t.v.Markets[market].Last = f.Price
		t.tell(api.Event{Kind: api.Filled, Market: market, F: f})
	}
	return api.OK
}

// trade changes both accounts of a fill, and lets the taker pay the fee.
func (t *turn) trade(market int, f api.Fill, fee int) api.Errno {
	bought := f.Side * f.Qty
	if e := t.tradeOf(f.TakerAccount, market, bought, f.Price, fee); e != api.OK {
		return e
	}
	if e := t.tradeOf(f.MakerAccount, market, -bought, f.Price, 0); e != api.OK {
		return e
	}
	return grow(&t.v.Insurance, fee)
}

func (t *turn) tradeOf(id, market, qty, price, fee int) api.Errno {
	// It is there, as Check lets no order rest that is of nobody.
	at, _ := placeOf(t.v.Accounts, id)
	a, e := account.Trade(t.v.Accounts[at], market, qty, price, fee)
	if e != api.OK {
		return e
	}
	t.v.Accounts[at] = a
	return api.OK
}

// readyWith: would o's account be ready, if what rests of o were traded, too?
func (t *turn) readyWith(market int, o api.Order) api.Errno {
	// Where nothing of it rests, this is an order of Qty 0, and a trade of 0 changes nothing.
	rest, _ := book.Find(t.v.Markets[market].B, o.ID)
	at, _ := placeOf(t.v.Accounts, o.Account)
	a, e := account.Trade(t.v.Accounts[at], market, o.Side*rest.Qty, o.Price, 0)
	if e != api.OK {
		return e
	}
	return t.ready(a)
}

// ready: has the account what it wants to begin, at the marks as they are by now?
func (t *turn) ready(a api.Account) api.Errno {
	marks, e := risk.Marks(t.v.Markets)
	if e != api.OK {
		return e
	}
	begin, _, e := risk.Sound(a, marks)
	if e != api.OK {
		return e
	}
	if !begin {
		return api.ErrMargin
	}
	return api.OK
}

func (t *turn) hasMarket(market int) bool { return market >= 0 && market < len(t.v.Markets) }

// open answers where the account of this ID is, which is there from now on.
func (t *turn) open(id int) (at int) {
	at, there := placeOf(t.v.Accounts, id)
	if !there {
		t.v.Accounts = slices.Insert(t.v.Accounts, at, api.Account{ID: id, Pos: make([]int, len(t.v.Markets))})
	}
	return at
}

// move adds n to the Balance of the account at this place.
func (t *turn) move(at, n int) api.Errno {
	if e := grow(&t.v.Accounts[at].Balance, n); e != api.OK {
		return e
	}
	t.moved(t.v.Accounts[at].ID, n)
	return api.OK
}

func (t *turn) moved(id, n int) { t.tell(api.Event{Kind: api.Moved, Account: id, N: n}) }

func (t *turn) gone(market int, o api.Order, n int) {
	t.tell(api.Event{Kind: api.Gone, Market: market, ID: o.ID, Account: o.Account, N: n})
}

func (t *turn) tell(event api.Event) { t.events = append(t.events, event) }

// grow adds n to an amount, where the sum is one, too.
func grow(amount *int, n int) api.Errno {
	sum, e := fix.Add(*amount, n)
	if e == api.OK {
		*amount = sum
	}
	return e
}
