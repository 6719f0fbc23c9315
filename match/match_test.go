package match

import (
	"math"
	"math/rand"
	"slices"
	"testing"

	"tollbooth/api"
	"tollbooth/book"
)

func bid(id, account, price, qty int) api.Order {
	return api.Order{ID: id, Account: account, Side: api.Buy, Price: price, Qty: qty}
}

func ask(id, account, price, qty int) api.Order {
	return api.Order{ID: id, Account: account, Side: api.Sell, Price: price, Qty: qty}
}

// changed answers o after change.
func changed(o api.Order, change func(*api.Order)) api.Order {
	change(&o)
	return o
}

// some has two orders at the best price of each side, and one behind them; account 0 has none of them.
func some() api.Book {
	return api.Book{
		Bids: []api.Order{bid(1, 1, 95, 3), bid(4, 2, 95, 5), bid(2, 3, 90, 4)},
		Asks: []api.Order{ask(3, 1, 100, 3), ask(5, 2, 100, 5), ask(6, 3, 105, 4)},
	}
}

// full is a book of as many orders as there may be, all of account 1.
func full() api.Book {
	var b api.Book
	for i := range api.MaxOrders / 2 {
		b.Bids = append(b.Bids, bid(1+i, 1, 100-i, 2))
		b.Asks = append(b.Asks, ask(101+i, 1, 200+i, 2))
	}
	return b
}

func clone(b api.Book) api.Book {
	return api.Book{Bids: slices.Clone(b.Bids), Asks: slices.Clone(b.Asks)}
}

// mirrored answers the book and the order with sides and prices the other way round: what comes of them must be, too.
func mirrored(b api.Book, o api.Order) (api.Book, api.Order) {
	return api.Book{Bids: turnAll(b.Asks), Asks: turnAll(b.Bids)}, turn(o)
}

func turn(o api.Order) api.Order {
	o.Side, o.Price = -o.Side, api.MaxPrice+1-o.Price
	return o
}

func turnAll(l []api.Order) []api.Order {
	var out []api.Order
	for _, o := range l {
		out = append(out, turn(o))
	}
	return out
}

func turnFills(l []api.Fill) []api.Fill {
	var out []api.Fill
	for _, f := range l {
		f.Side, f.Price = -f.Side, api.MaxPrice+1-f.Price
		out = append(out, f)
	}
	return out
}

type done struct {
	b     api.Book
	fills []api.Fill
	left  int
	met   bool
	e     api.Errno
}

func same(a, b done) bool {
	return book.Same(a.b, b.b) && slices.Equal(a.fills, b.fills) && a.left == b.left && a.met == b.met && a.e == b.e
}

func take(b api.Book, o api.Order) done {
	out, fills, left, met, e := Take(b, o)
	return done{out, fills, left, met, e}
}

func come(b api.Book, o api.Order, how int) done {
	out, fills, left, e := Come(b, o, how)
	return done{out, fills, left, false, e}
}

func kinds() []int { return []int{api.Limit, api.Now, api.Whole, api.Post} }

type takeCase struct {
	name  string
	o     api.Order
	fills []api.Fill
	asks  []api.Order // what is left of some's
	left  int
	met   bool
}

// orders that come to some(), to buy.
func takeCases() []takeCase {
	asks := some().Asks
	by := func(account, price, qty int) api.Order { return bid(9, account, price, qty) }
	got := func(account int, quantities ...int) []api.Fill {
		var l []api.Fill
		for i, q := range quantities {
			l = append(l, api.Fill{Maker: asks[i].ID, MakerAccount: asks[i].Account, Taker: 9, TakerAccount: account, Side: api.Buy, Price: asks[i].Price, Qty: q})
		}
		return l
	}
	less := func(at, qty int) []api.Order {
		l := slices.Clone(asks[at:])
		l[0].Qty = qty
		return l
	}
	return []takeCase{
		{"below the best price", by(0, 99, 5), nil, asks, 5, false},
		{"the lowest price", by(0, 1, api.MaxQty), nil, asks, api.MaxQty, false},
		{"a part of the first", by(0, 100, 2), got(0, 2), less(0, 1), 0, false},
		{"one of the first", by(0, 100, 1), got(0, 1), less(0, 2), 0, false},
		{"just the first", by(0, 100, 3), got(0, 3), asks[1:], 0, false},
		{"the first, and a part of the second at its price", by(0, 100, 4), got(0, 3, 1), less(1, 4), 0, false},
		{"just both at the best price", by(0, 100, 8), got(0, 3, 5), asks[2:], 0, false},
		{"more than there is at its price", by(0, 100, 9), got(0, 3, 5), asks[2:], 1, false},
		{"one below the next price", by(0, 104, 9), got(0, 3, 5), asks[2:], 1, false},
		{"at the next price, each at its own", by(0, 105, 9), got(0, 3, 5, 1), less(2, 3), 0, false},
		{"at the greatest price, each at its own", by(0, api.MaxPrice, 12), got(0, 3, 5, 4), nil, 0, false},
		{"more than there is", by(0, api.MaxPrice, api.MaxQty), got(0, 3, 5, 4), nil, api.MaxQty - 12, false},
		{"its own is first", by(1, 105, 9), nil, asks, 9, true},
		{"its own is first, at just its price", by(1, 100, 1), nil, asks, 1, true},
		{"its own isn't crossed", by(1, 99, 9), nil, asks, 9, false},
		{"its own is second", by(2, 105, 9), got(2, 3), asks[1:], 6, true},
		{"nothing is left when its own would be next", by(2, 105, 3), got(2, 3), asks[1:], 0, false},
		{"one is left when its own is next", by(2, 105, 4), got(2, 3), asks[1:], 1, true},
		{"its own is last", by(3, 105, 9), got(3, 3, 5), asks[2:], 1, true},
		{"its own is last, behind its price", by(3, 104, 9), got(3, 3, 5), asks[2:], 1, false},
		{"its ID is the maker's", changed(by(0, 100, 1), func(o *api.Order) { o.ID = 3 }), []api.Fill{{Maker: 3, MakerAccount: 1, Taker: 3, Side: api.Buy, Price: 100, Qty: 1}}, less(0, 2), 0, false},
		{"its ID is one of its side", changed(by(0, 100, 1), func(o *api.Order) { o.ID = 2 }), []api.Fill{{Maker: 3, MakerAccount: 1, Taker: 2, Side: api.Buy, Price: 100, Qty: 1}}, less(0, 2), 0, false},
		{"the last ID", changed(by(0, 100, 1), func(o *api.Order) { o.ID = api.MaxID }), []api.Fill{{Maker: 3, MakerAccount: 1, Taker: api.MaxID, Side: api.Buy, Price: 100, Qty: 1}}, less(0, 2), 0, false},
	}
}

func TestTake(t *testing.T) {
	for _, c := range takeCases() {
		want := done{api.Book{Bids: some().Bids, Asks: c.asks}, c.fills, c.left, c.met, api.OK}
		if got := take(some(), c.o); !same(got, want) {
			t.Errorf("%s: Take(%+v) = %+v, want %+v", c.name, c.o, got, want)
		}
		b, o := mirrored(some(), c.o)
		want.b, _ = mirrored(want.b, c.o)
		want.fills = turnFills(want.fills)
		if got := take(b, o); !same(got, want) {
			t.Errorf("%s, to sell: Take(%+v) = %+v, want %+v", c.name, o, got, want)
		}
	}
}

func TestTakeOfNobody(t *testing.T) {
	for _, o := range []api.Order{bid(9, 0, api.MaxPrice, 7), ask(9, 0, 1, 7)} {
		if got := take(api.Book{}, o); !same(got, done{left: 7}) {
			t.Errorf("Take(nothing, %+v) = %+v", o, got)
		}
	}
	// Its own side is never taken from, however good its price is.
	b := api.Book{Bids: some().Bids}
	if got := take(b, bid(9, 1, api.MaxPrice, 7)); !same(got, done{b: b, left: 7}) {
		t.Errorf("Take of its own side = %+v", got)
	}
}

type orderCase struct {
	name string
	o    api.Order
	want api.Errno
}

// orders that may not be; each of them would cross.
func badOrders() []orderCase {
	at := func(name string, want api.Errno, change func(*api.Order)) orderCase {
		return orderCase{name, changed(bid(9, 1, 200, 7), change), want}
	}
	return []orderCase{
		{"nothing", api.Order{}, api.ErrWho},
		at("ID 0", api.ErrWho, func(o *api.Order) { o.ID = 0 }),
		at("ID too great", api.ErrWho, func(o *api.Order) { o.ID = api.MaxID + 1 }),
		at("account below 0", api.ErrWho, func(o *api.Order) { o.Account = -1 }),
		at("account too great", api.ErrWho, func(o *api.Order) { o.Account = api.MaxAccounts }),
		at("side 0", api.ErrForm, func(o *api.Order) { o.Side = 0 }),
		at("side 2", api.ErrForm, func(o *api.Order) { o.Side = 2 }),
		at("price 0", api.ErrRange, func(o *api.Order) { o.Price = 0 }),
		at("price too great", api.ErrRange, func(o *api.Order) { o.Price = api.MaxPrice + 1 }),
		at("greatest price of all", api.ErrRange, func(o *api.Order) { o.Price = math.MaxInt }),
		at("quantity 0", api.ErrRange, func(o *api.Order) { o.Qty = 0 }),
		at("quantity below 0", api.ErrRange, func(o *api.Order) { o.Qty = math.MinInt }),
		at("quantity too great", api.ErrRange, func(o *api.Order) { o.Qty = api.MaxQty + 1 }),
		at("who ahead of form", api.ErrWho, func(o *api.Order) { o.Account, o.Side = -1, 0 }),
	}
}

type bookCase struct {
	name string
	b    api.Book
	want api.Errno
}

func badBooks() []bookCase {
	many := full()
	many.Bids = append(many.Bids, bid(90, 1, 1, 1))
	return []bookCase{
		{"too many", many, api.ErrMany},
		{"a bid of nobody", api.Book{Bids: []api.Order{bid(1, -1, 5, 1)}}, api.ErrWho},
		{"an ask without ID", api.Book{Asks: []api.Order{ask(0, 1, 5, 1)}}, api.ErrWho},
		{"an ask of nothing", api.Book{Asks: []api.Order{ask(1, 1, 5, 0)}}, api.ErrRange},
		{"a bid among the asks", api.Book{Asks: []api.Order{bid(1, 1, 5, 1)}}, api.ErrForm},
		{"asks the wrong way round", api.Book{Asks: []api.Order{ask(1, 1, 6, 1), ask(2, 1, 5, 1)}}, api.ErrForm},
		{"an ID twice", api.Book{Bids: []api.Order{bid(1, 1, 5, 1)}, Asks: []api.Order{ask(1, 1, 6, 1)}}, api.ErrTwice},
		{"crossed", api.Book{Bids: []api.Order{bid(1, 1, 5, 1)}, Asks: []api.Order{ask(2, 1, 5, 1)}}, api.ErrForm},
	}
}

func TestTakeErrors(t *testing.T) {
	for _, c := range badOrders() {
		for _, b := range []api.Book{{}, some(), full()} {
			if got := take(b, c.o); !same(got, done{e: c.want}) {
				t.Errorf("%s: Take(%+v) = %+v, want error %d", c.name, c.o, got, c.want)
			}
		}
	}
	for _, c := range badBooks() {
		orders := []api.Order{bid(9, 0, 200, 7), ask(9, 0, 1, 7), bid(1, 1, 1, 1)}
		for _, bad := range badOrders() {
			orders = append(orders, bad.o)
		}
		for _, o := range orders {
			if got := take(c.b, o); !same(got, done{e: c.want}) {
				t.Errorf("%s: Take(%+v) = %+v, want error %d", c.name, o, got, c.want)
			}
		}
	}
}

// What each kind makes of what Take says, to buy and to sell.
func TestComeKinds(t *testing.T) {
	const rests, goes = api.Errno(-1), api.Errno(-2)
	for _, c := range []struct {
		name                    string
		o                       api.Order
		limit, now, whole, post api.Errno
	}{
		{"all of it at once", bid(9, 0, 105, 9), goes, goes, goes, api.ErrPost},
		{"just all that is there", bid(9, 0, 105, 12), goes, goes, goes, api.ErrPost},
		{"one more than that", bid(9, 0, 105, 13), rests, goes, api.ErrAll, api.ErrPost},
		{"a part of it", bid(9, 0, 100, 9), rests, goes, api.ErrAll, api.ErrPost},
		{"nothing of it", bid(9, 0, 99, 9), rests, goes, api.ErrAll, rests},
		{"nothing of it, of who has an order there", bid(9, 1, 99, 9), rests, goes, api.ErrAll, rests},
		{"nothing of it, behind others", bid(9, 0, 1, 9), rests, goes, api.ErrAll, rests},
		{"its own at once", bid(9, 1, 100, 1), api.ErrSelf, api.ErrSelf, api.ErrSelf, api.ErrPost},
		{"its own after a part", bid(9, 2, 100, 4), api.ErrSelf, api.ErrSelf, api.ErrSelf, api.ErrPost},
		{"its own isn't reached", bid(9, 2, 100, 3), goes, goes, goes, api.ErrPost},
		{"its own is behind its price", bid(9, 3, 104, 9), rests, goes, api.ErrAll, api.ErrPost},
	} {
		for i, want := range []api.Errno{c.limit, c.now, c.whole, c.post} {
			turned, o := mirrored(some(), c.o)
			for _, x := range []struct {
				b api.Book
				o api.Order
			}{{some(), c.o}, {turned, o}} {
				w := done{e: want}
				if want == rests || want == goes {
					w = take(x.b, x.o)
				}
				if want == rests {
					w.b, w.e = book.Rest(w.b, changed(x.o, func(o *api.Order) { o.Qty = w.left }))
					w.left = 0
				}
				how := kinds()[i]
				if got := come(x.b, x.o, how); !same(got, w) {
					t.Errorf("%s: Come(%+v, %d) = %+v, want %+v", c.name, x.o, how, got, w)
				}
			}
		}
	}
}

// The document's example, and what is left of it at a lower price.
func TestComeByNumbers(t *testing.T) {
	b := api.Book{Asks: []api.Order{ask(1, 1, 100, 3), ask(2, 2, 101, 4)}}
	first := api.Fill{Maker: 1, Taker: 3, MakerAccount: 1, TakerAccount: 4, Side: api.Buy, Price: 100, Qty: 3}
	second := api.Fill{Maker: 2, Taker: 3, MakerAccount: 2, TakerAccount: 4, Side: api.Buy, Price: 101, Qty: 2}
	for _, c := range []struct {
		name       string
		price, how int
		want       done
	}{
		{"all of it", 101, api.Limit, done{b: api.Book{Asks: []api.Order{ask(2, 2, 101, 2)}}, fills: []api.Fill{first, second}}},
		{"all of it, now", 101, api.Now, done{b: api.Book{Asks: []api.Order{ask(2, 2, 101, 2)}}, fills: []api.Fill{first, second}}},
		{"a part rests", 100, api.Limit, done{b: api.Book{Bids: []api.Order{bid(3, 4, 100, 2)}, Asks: b.Asks[1:]}, fills: []api.Fill{first}}},
		{"a part goes", 100, api.Now, done{b: api.Book{Asks: b.Asks[1:]}, fills: []api.Fill{first}, left: 2}},
		{"all of it rests", 99, api.Post, done{b: api.Book{Bids: []api.Order{bid(3, 4, 99, 5)}, Asks: b.Asks}}},
		{"all of it goes", 99, api.Now, done{b: b, left: 5}},
	} {
		if got := come(b, bid(3, 4, c.price, 5), c.how); !same(got, c.want) {
			t.Errorf("%s: Come = %+v, want %+v", c.name, got, c.want)
		}
	}
}

func TestComeErrors(t *testing.T) {
	bad := []int{0, -1, api.Post + 1, math.MinInt, math.MaxInt}
	for _, how := range append(kinds(), bad...) {
		for _, c := range badBooks() {
			for _, o := range []api.Order{{}, bid(1, 1, 5, 1), bid(9, 0, 200, 7), ask(9, 0, 1, 0)} {
				if got := come(c.b, o, how); !same(got, done{e: c.want}) {
					t.Errorf("%s: Come(%+v, %d) = %+v, want error %d", c.name, o, how, got, c.want)
				}
			}
		}
		// Its ID counts ahead of its kind, and of what else is wrong with it.
		for _, o := range []api.Order{bid(1, 0, 200, 1), bid(3, 0, 1, 1), ask(1, 1, 1, 1), {ID: 6, Account: -1, Side: 5}} {
			if got := come(some(), o, how); !same(got, done{e: api.ErrTwice}) {
				t.Errorf("Come(%+v, %d) = %+v, want error %d", o, how, got, api.ErrTwice)
			}
		}
		for _, c := range badOrders() {
			want := c.want
			if slices.Contains(bad, how) {
				want = api.ErrForm
			}
			if got := come(some(), c.o, how); !same(got, done{e: want}) {
				t.Errorf("%s: Come(%+v, %d) = %+v, want error %d", c.name, c.o, how, got, want)
			}
		}
	}
	for _, how := range bad {
		for _, o := range []api.Order{bid(9, 0, 99, 1), bid(9, 0, 200, 1), bid(9, 1, 200, 1)} {
			if got := come(some(), o, how); !same(got, done{e: api.ErrForm}) {
				t.Errorf("Come(%+v, %d) = %+v, want error %d", o, how, got, api.ErrForm)
			}
		}
	}
}

// Where no more may rest, those that need no place still come.
func TestComeToFull(t *testing.T) {
	for _, c := range []struct {
		name string
		o    api.Order
		how  int
		want api.Errno
	}{
		{"nothing of it, limit", bid(50, 0, 150, 1), api.Limit, api.ErrFull},
		{"nothing of it, post", ask(50, 0, 150, 1), api.Post, api.ErrFull},
		{"nothing of it, now", bid(50, 0, 150, 1), api.Now, api.OK},
		{"nothing of it, whole", bid(50, 0, 150, 1), api.Whole, api.ErrAll},
		{"all of it", bid(50, 0, 200, 2), api.Limit, api.OK},
		{"the rest has the place of what it took", bid(50, 0, 200, 3), api.Limit, api.OK},
		{"the same, to sell", ask(50, 0, 100, 3), api.Limit, api.OK},
		{"it would take", bid(50, 0, 200, 3), api.Post, api.ErrPost},
		{"its own", bid(50, 1, 200, 3), api.Limit, api.ErrSelf},
	} {
		got := come(full(), c.o, c.how)
		if got.e != c.want || c.want != api.OK && !same(got, done{e: c.want}) {
			t.Errorf("%s: Come = %+v, want error %d", c.name, got, c.want)
		}
		if e := book.Check(got.b); e != api.OK {
			t.Errorf("%s: Check of the book = %d", c.name, e)
		}
	}
}

// anyOrder has prices and IDs so close that orders meet.
func anyOrder(r *rand.Rand) api.Order {
	o := bid(1+r.Intn(400), r.Intn(api.MaxAccounts), 1+r.Intn(14), 1+r.Intn(9))
	if r.Intn(2) == 0 {
		o.Side, o.Price = api.Sell, 8+r.Intn(14)
	}
	return o
}

// wantTake takes one after the other, each time from the one that stands ahead of all others, wherever it is listed.
func wantTake(b api.Book, o api.Order) done {
	d := done{b: clone(b), left: o.Qty}
	other := &d.b.Asks
	if o.Side == api.Sell {
		other = &d.b.Bids
	}
	for ; d.left > 0; d.left-- {
		at := -1
		for i, x := range *other {
			if (x.Price-o.Price)*o.Side <= 0 && (at < 0 || book.Ahead(x, (*other)[at])) {
				at = i
			}
		}
		if at < 0 {
			return d
		}
		x := &(*other)[at]
		if x.Account == o.Account {
			d.met = true
			return d
		}
		if n := len(d.fills); n > 0 && d.fills[n-1].Maker == x.ID {
			d.fills[n-1].Qty++
		} else {
			d.fills = append(d.fills, api.Fill{Maker: x.ID, Taker: o.ID, MakerAccount: x.Account, TakerAccount: o.Account, Side: o.Side, Price: x.Price, Qty: 1})
		}
		if x.Qty--; x.Qty == 0 {
			*other = slices.Delete(*other, at, at+1)
		}
	}
	return d
}

// wantCome says plainly what comes of an order that may be.
func wantCome(b api.Book, o api.Order, how int) done {
	for _, x := range slices.Concat(b.Bids, b.Asks) {
		if x.ID == o.ID {
			return done{e: api.ErrTwice}
		}
	}
	d := wantTake(b, o)
	switch {
	case how == api.Post && (d.met || len(d.fills) > 0):
		return done{e: api.ErrPost}
	case d.met:
		return done{e: api.ErrSelf}
	case how == api.Whole && d.left > 0:
		return done{e: api.ErrAll}
	case d.left == 0 || how == api.Now:
		return d
	case len(d.b.Bids)+len(d.b.Asks) == api.MaxOrders:
		return done{e: api.ErrFull}
	}
	o.Qty = d.left
	l := &d.b.Bids
	if o.Side == api.Sell {
		l = &d.b.Asks
	}
	*l = append(*l, o)
	slices.SortFunc(*l, func(x, y api.Order) int {
		if book.Ahead(x, y) {
			return -1
		}
		return 1
	})
	d.left = 0
	return d
}

// promised holds an answer of Come against P3.3, without asking how it came about.
func promised(t *testing.T, b api.Book, o api.Order, d done) {
	t.Helper()
	if e := book.Check(d.b); e != api.OK {
		t.Fatalf("Come(%+v, %+v): Check of the book = %d", b, o, e)
	}
	total := d.left
	for i, f := range d.fills {
		x, e := book.Find(b, f.Maker)
		if e != api.OK || x.Side == o.Side || f.MakerAccount != x.Account || f.Price != x.Price || f.Qty < 1 || f.Qty > x.Qty {
			t.Fatalf("Come(%+v, %+v): fill %+v isn't of an order that was there", b, o, f)
		}
		if f.MakerAccount == f.TakerAccount || f.Taker != o.ID || f.TakerAccount != o.Account || f.Side != o.Side {
			t.Fatalf("Come(%+v, %+v): fill %+v isn't the order's, with another", b, o, f)
		}
		if (f.Price-o.Price)*o.Side > 0 {
			t.Fatalf("Come(%+v, %+v): fill %+v is at a worse price than its own", b, o, f)
		}
		if other := slices.Concat(b.Bids, b.Asks); slices.ContainsFunc(other, func(y api.Order) bool {
			before := func(g api.Fill) bool { return g.Maker == y.ID }
			return y.Side == x.Side && book.Ahead(y, x) && !slices.ContainsFunc(d.fills[:i], before)
		}) {
			t.Fatalf("Come(%+v, %+v): fill %+v went past one that stood ahead", b, o, f)
		}
		total += f.Qty
	}
	if x, e := book.Find(d.b, o.ID); e == api.OK {
		total += x.Qty
	}
	if total != o.Qty {
		t.Fatalf("Come(%+v, %+v) = %+v: %d in all, not %d", b, o, d, total, o.Qty)
	}
}

// P3.3, and Take and Come against plain ones, over books that grow by chance.
func TestOverManyBooks(t *testing.T) {
	r := rand.New(rand.NewSource(3))
	seen, mets := map[api.Errno]int{}, 0
	for range 150 {
		var b api.Book
		for range 250 {
			o, how := anyOrder(r), kinds()[r.Intn(4)]
			got, want := take(b, o), wantTake(b, o)
			if !same(got, want) {
				t.Fatalf("Take(%+v, %+v) = %+v, want %+v", b, o, got, want)
			}
			if got.met {
				mets++
			}
			got, want = come(b, o, how), wantCome(b, o, how)
			if !same(got, want) {
				t.Fatalf("Come(%+v, %+v, %d) = %+v, want %+v", b, o, how, got, want)
			}
			seen[got.e]++
			if got.e == api.OK {
				promised(t, b, o, got)
				b = got.b
			}
		}
	}
	for _, e := range []api.Errno{api.OK, api.ErrTwice, api.ErrPost, api.ErrSelf, api.ErrAll, api.ErrFull} {
		if seen[e] == 0 {
			t.Errorf("no order was answered %d", e)
		}
	}
	if mets == 0 {
		t.Error("no order met its own")
	}
}

// roomy answers b in lists with spare room, and all of that room.
func roomy(b api.Book) (api.Book, []api.Order) {
	var room []api.Order
	mark := api.Order{ID: -7}
	room = append(room, b.Bids...)
	room = append(room, mark, mark, mark)
	at := len(room)
	room = append(room, b.Asks...)
	room = append(room, mark, mark, mark)
	return api.Book{Bids: room[:len(b.Bids)], Asks: room[at : at+len(b.Asks)]}, room
}

// overwrite fills a list and the spare room behind it.
func overwrite[T any](l []T, with T) {
	l = l[:cap(l)]
	for i := range l {
		l[i] = with
	}
}

// What is handed in is only read, and what is answered shares no memory with it, or within itself.
func TestMemory(t *testing.T) {
	orders := []api.Order{
		bid(60, 0, 100, 2), bid(60, 0, 100, 9), bid(60, 0, 200, 12), bid(60, 0, 99, 2), bid(60, 2, 200, 9),
		ask(60, 0, 95, 2), ask(60, 0, 95, 9), ask(60, 0, 1, 12), ask(60, 0, 96, 2), ask(60, 2, 1, 9), bid(1, 0, 1, 1), {},
	}
	calls := []func(api.Book, api.Order) done{take}
	for _, how := range append(kinds(), 0) {
		calls = append(calls, func(b api.Book, o api.Order) done { return come(b, o, how) })
	}
	books := []api.Book{{}, some(), {Bids: some().Bids}, {Asks: some().Asks}, full(), badBooks()[7].b}
	for i, call := range calls {
		for _, was := range books {
			for _, o := range orders {
				b, room := roomy(was)
				kept := slices.Clone(room)
				got := call(b, o)
				first := got
				first.b, first.fills = clone(got.b), slices.Clone(got.fills)
				overwrite(got.b.Bids, api.Order{ID: -9})
				if !slices.Equal(got.b.Asks, first.b.Asks) {
					t.Errorf("call %d of %+v: the answer's lists share memory", i, o)
				}
				overwrite(got.b.Asks, api.Order{ID: -9})
				overwrite(got.fills, api.Fill{Maker: -9})
				if !slices.Equal(room, kept) {
					t.Errorf("call %d of %+v: what was handed in is changed, or shared", i, o)
				}
				if again := call(b, o); !same(again, first) {
					t.Errorf("call %d of %+v: it answers %+v, and then %+v", i, o, first, again)
				}
			}
		}
	}
}
