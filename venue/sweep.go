package venue

import (
	"tollbooth/api"
	"tollbooth/book"
	"tollbooth/match"
	"tollbooth/risk"
)

// sweep closes whoever hasn't enough to go on. The marks are those of when it begins: what is closed here, at prices
// that nobody asked for, must not draw others along. An account is judged when its turn comes, by what those ahead of it
// have left it.
func (t *turn) sweep() api.Errno {
	marks, e := risk.Marks(t.v.Markets)
	if e != api.OK {
		return e
	}
	for at := range t.v.Accounts {
		_, goesOn, e := risk.Sound(t.v.Accounts[at], marks)
		if e != api.OK {
			return e
		}
		if goesOn {
			continue
		}
		if e = t.closeAll(at, marks); e != api.OK {
			return e
		}
	}
	return api.OK
}

func (t *turn) closeAll(at int, marks []int) api.Errno {
	for market := range t.v.Markets {
		if e := t.dropOrders(at, market); e != api.OK {
			return e
		}
	}
	for market := range t.v.Markets {
		if t.v.Accounts[at].Pos[market] == 0 {
			continue
		}
		if e := t.closeIn(at, market, marks); e != api.OK {
			return e
		}
	}
	return t.cover(at)
}

func (t *turn) dropOrders(at, market int) api.Errno {
	// The array keeps both sides as they were, while the market's book is changed.
	for _, side := range sidesOf(t.v.Markets[market].B) {
		for _, o := range side {
			if o.Account != t.v.Accounts[at].ID {
				continue
			}
			b, _, e := book.Remove(t.v.Markets[market].B, o.ID)
			if e != api.OK {
				return e
			}
			t.v.Markets[market].B = b
			t.gone(market, o, o.Qty)
		}
	}
	return api.OK
}

// closeIn closes a position by the book, as far as that is no worse than the price of bankruptcy, and by those on the
// other side at that price, for the rest.
func (t *turn) closeIn(at, market int, marks []int) api.Errno {
	a := t.v.Accounts[at]
	price, e := risk.Bankrupt(a, marks, market)
	if e != api.OK {
		return e
	}
	o := api.Order{ID: api.MaxID, Account: a.ID, Side: api.Sell, Price: price, Qty: a.Pos[market]}
	if o.Qty < 0 {
		o.Side, o.Qty = api.Buy, -o.Qty
	}
	// It can't meet its own: all orders of this account are gone by now.
	b, fills, left, _, e := match.Take(t.v.Markets[market].B, o)
	if e != api.OK {
		return e
	}
	t.v.Markets[market].B = b
	if e = t.fill(market, fills, noFee); e != api.OK {
		return e
	}
	o.Qty = left
	return t.closeByOthers(market, o)
}

// closeByOthers closes what is left of o. As all positions together are none, there is enough of it on the other side.
func (t *turn) closeByOthers(market int, o api.Order) api.Errno {
	for o.Qty > 0 {
		at := t.mostOf(market, o.Side)
		other := t.v.Accounts[at]
		f := api.Fill{
			MakerAccount: other.ID, TakerAccount: o.Account,
			Side: o.Side, Price: o.Price, Qty: min(o.Qty, o.Side*other.Pos[market]),
		}
		if e := t.trade(market, f, 0); e != api.OK {
			return e
		}
		t.tell(api.Event{Kind: api.Closed, Market: market, Account: other.ID, F: f})
		o.Qty -= f.Qty
	}
	return api.OK
}

// mostOf answers where the account is that has the greatest position of this sign, the first of such.
func (t *turn) mostOf(market, sign int) int {
	best := 0
	for at, a := range t.v.Accounts {
		if sign*a.Pos[market] > sign*t.v.Accounts[best].Pos[market] {
			best = at
		}
	}
	return best
}

// cover pays what an account lacks, as far as there is something.
func (t *turn) cover(at int) api.Errno {
	lacks := -t.v.Accounts[at].Balance
	if lacks <= 0 {
		return api.OK
	}
	n := min(lacks, t.v.Insurance)
	t.v.Insurance -= n
	return t.move(at, n)
}

func noFee(qty, price int) (int, api.Errno) { return 0, api.OK }
