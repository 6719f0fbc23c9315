package book

import (
	"math"
	"math/rand"
	"slices"
	"testing"

	"tollbooth/api"
)

func bid(id, price int) api.Order {
	return api.Order{ID: id, Account: id % api.MaxAccounts, Side: api.Buy, Price: price, Qty: 1 + id%api.MaxQty}
}

func ask(id, price int) api.Order {
	o := bid(id, price)
	o.Side = api.Sell
	return o
}

// changed answers o after change.
func changed(o api.Order, change func(*api.Order)) api.Order {
	change(&o)
	return o
}

// full is a book of as many orders as there may be.
func full() api.Book {
	var b api.Book
	for i := range api.MaxOrders / 2 {
		b.Bids = append(b.Bids, bid(1+i, 100-i))
		b.Asks = append(b.Asks, ask(101+i, 200+i))
	}
	return b
}

// some is a book in which each side has a better price, and two orders at a worse one.
func some() api.Book {
	return api.Book{
		Bids: []api.Order{bid(3, 6), bid(1, 5), bid(2, 5)},
		Asks: []api.Order{ask(4, 8), ask(5, 9), ask(7, 9)},
	}
}

func ids(l []api.Order) []int {
	out := []int{}
	for _, o := range l {
		out = append(out, o.ID)
	}
	return out
}

func clone(b api.Book) api.Book {
	return api.Book{Bids: slices.Clone(b.Bids), Asks: slices.Clone(b.Asks)}
}

func isZero(b api.Book) bool { return len(b.Bids) == 0 && len(b.Asks) == 0 }

type orderCase struct {
	name string
	o    api.Order
	want api.Errno
}

// orders at each limit, beyond it, and with more than one fault.
func orderCases() []orderCase {
	good := bid(1, 5)
	at := func(name string, want api.Errno, change func(*api.Order)) orderCase {
		return orderCase{name, changed(good, change), want}
	}
	return []orderCase{
		{"a bid", bid(20, 5), api.OK},
		{"an ask", ask(20, 5), api.OK},
		at("first ID", api.OK, func(o *api.Order) { o.ID = 1 }),
		at("last ID", api.OK, func(o *api.Order) { o.ID = api.MaxID }),
		at("ID 0", api.ErrWho, func(o *api.Order) { o.ID = 0 }),
		at("ID below 0", api.ErrWho, func(o *api.Order) { o.ID = -1 }),
		at("ID too great", api.ErrWho, func(o *api.Order) { o.ID = api.MaxID + 1 }),
		at("least ID of all", api.ErrWho, func(o *api.Order) { o.ID = math.MinInt }),
		at("first account", api.OK, func(o *api.Order) { o.Account = 0 }),
		at("last account", api.OK, func(o *api.Order) { o.Account = api.MaxAccounts - 1 }),
		at("account below 0", api.ErrWho, func(o *api.Order) { o.Account = -1 }),
		at("account too great", api.ErrWho, func(o *api.Order) { o.Account = api.MaxAccounts }),
		at("side 0", api.ErrForm, func(o *api.Order) { o.Side = 0 }),
		at("side 2", api.ErrForm, func(o *api.Order) { o.Side = 2 }),
		at("side -2", api.ErrForm, func(o *api.Order) { o.Side = -2 }),
		at("lowest price", api.OK, func(o *api.Order) { o.Price = 1 }),
		at("greatest price", api.OK, func(o *api.Order) { o.Price = api.MaxPrice }),
		at("price 0", api.ErrRange, func(o *api.Order) { o.Price = 0 }),
		at("price below 0", api.ErrRange, func(o *api.Order) { o.Price = math.MinInt }),
		at("price too great", api.ErrRange, func(o *api.Order) { o.Price = api.MaxPrice + 1 }),
		at("least quantity", api.OK, func(o *api.Order) { o.Qty = 1 }),
		at("greatest quantity", api.OK, func(o *api.Order) { o.Qty = api.MaxQty }),
		at("quantity 0", api.ErrRange, func(o *api.Order) { o.Qty = 0 }),
		at("quantity below 0", api.ErrRange, func(o *api.Order) { o.Qty = -1 }),
		at("quantity too great", api.ErrRange, func(o *api.Order) { o.Qty = api.MaxQty + 1 }),
		at("who ahead of form", api.ErrWho, func(o *api.Order) { o.Account, o.Side = -1, 0 }),
		at("form ahead of range", api.ErrForm, func(o *api.Order) { o.Side, o.Price = 0, 0 }),
		at("who ahead of range", api.ErrWho, func(o *api.Order) { o.ID, o.Qty = 0, 0 }),
		{"nothing", api.Order{}, api.ErrWho},
	}
}

func TestCheckOrder(t *testing.T) {
	for _, c := range orderCases() {
		if got := CheckOrder(c.o); got != c.want {
			t.Errorf("%s: CheckOrder(%+v) = %d, want %d", c.name, c.o, got, c.want)
		}
	}
}

func TestAhead(t *testing.T) {
	other := func(o api.Order) api.Order {
		return changed(o, func(o *api.Order) { o.Side = 0 })
	}
	for _, c := range []struct {
		name string
		a, b api.Order
		want bool
	}{
		{"greater bid", bid(2, 6), bid(1, 5), true},
		{"lower bid", bid(1, 5), bid(2, 6), false},
		{"lower ask", ask(2, 5), ask(1, 6), true},
		{"greater ask", ask(1, 6), ask(2, 5), false},
		{"earlier bid", bid(1, 5), bid(2, 5), true},
		{"later bid", bid(2, 5), bid(1, 5), false},
		{"earlier ask", ask(1, 5), ask(2, 5), true},
		{"later ask", ask(2, 5), ask(1, 5), false},
		{"bid and itself", bid(1, 5), bid(1, 5), false},
		{"ask and itself", ask(1, 5), ask(1, 5), false},
		{"the first one's side counts: greater bid and an ask", bid(2, 6), ask(1, 5), true},
		{"the first one's side counts: greater ask and a bid", ask(1, 6), bid(2, 5), false},
		{"no side is like an ask: lower", other(bid(2, 5)), bid(1, 6), true},
		{"no side is like an ask: greater", other(bid(1, 6)), bid(2, 5), false},
		{"far prices", bid(1, math.MaxInt), bid(2, math.MinInt), true},
		{"far prices, sold", changed(ask(1, 0), func(o *api.Order) { o.Price = math.MinInt }), ask(2, math.MaxInt), true},
		{"far IDs", api.Order{ID: math.MinInt, Side: api.Buy}, api.Order{ID: math.MaxInt, Side: api.Buy}, true},
	} {
		if got := Ahead(c.a, c.b); got != c.want {
			t.Errorf("%s: Ahead(%+v, %+v) = %v, want %v", c.name, c.a, c.b, got, c.want)
		}
	}
}

type bookCase struct {
	name string
	b    api.Book
	want api.Errno
}

func bookOf(l ...api.Order) api.Book {
	var b api.Book
	for _, o := range l {
		if o.Side == api.Sell {
			b.Asks = append(b.Asks, o)
		} else {
			b.Bids = append(b.Bids, o)
		}
	}
	return b
}

func goodBooks() []bookCase {
	return []bookCase{
		{"nothing", api.Book{}, api.OK},
		{"empty lists", api.Book{Bids: []api.Order{}, Asks: []api.Order{}}, api.OK},
		{"one bid", bookOf(bid(1, 5)), api.OK},
		{"one ask", bookOf(ask(1, 5)), api.OK},
		{"both sides", some(), api.OK},
		{"next to each other", bookOf(bid(2, 5), ask(1, 6)), api.OK},
		{"at the outermost prices", bookOf(bid(1, 1), ask(2, api.MaxPrice)), api.OK},
		{"full", full(), api.OK},
	}
}

func badBooks() []bookCase {
	tooMany := full()
	tooMany.Asks = append(tooMany.Asks, ask(api.MaxID, api.MaxPrice))
	tooManyBids := api.Book{Bids: make([]api.Order, api.MaxOrders+1)}
	noSide := changed(bid(2, 5), func(o *api.Order) { o.Side = 0 })
	noPrice := changed(bid(2, 5), func(o *api.Order) { o.Price = 0 })
	return []bookCase{
		{"one too many", tooMany, api.ErrMany},
		{"too many is told ahead of all else", tooManyBids, api.ErrMany},
		{"a bid without ID", bookOf(bid(0, 5)), api.ErrWho},
		{"an ask without ID", bookOf(ask(0, 5)), api.ErrWho},
		{"a bid of no side", bookOf(noSide), api.ErrForm},
		{"a bid without price", bookOf(noPrice), api.ErrRange},
		{"an ask without price", bookOf(ask(1, 0)), api.ErrRange},
		{"an ask among the bids", api.Book{Bids: []api.Order{ask(1, 5)}}, api.ErrForm},
		{"a bid among the asks", api.Book{Asks: []api.Order{bid(1, 5)}}, api.ErrForm},
		{"bids by price the wrong way round", bookOf(bid(1, 5), bid(2, 6)), api.ErrForm},
		{"asks by price the wrong way round", bookOf(ask(1, 6), ask(2, 5)), api.ErrForm},
		{"bids by ID the wrong way round", bookOf(bid(2, 5), bid(1, 5)), api.ErrForm},
		{"asks by ID the wrong way round", bookOf(ask(2, 5), ask(1, 5)), api.ErrForm},
		{"the last bids the wrong way round", bookOf(bid(1, 9), bid(2, 5), bid(3, 6)), api.ErrForm},
		{"a bid twice in a row isn't ahead of itself", bookOf(bid(1, 5), bid(1, 5)), api.ErrForm},
		{"an ID twice among the bids", bookOf(bid(1, 6), bid(1, 5)), api.ErrTwice},
		{"an ID twice, not in a row", bookOf(bid(1, 6), bid(2, 6), bid(1, 5)), api.ErrTwice},
		{"an ID twice among the asks", bookOf(ask(1, 5), ask(2, 6), ask(1, 7)), api.ErrTwice},
		{"an ID on both sides", bookOf(bid(1, 5), bid(2, 5), ask(2, 6)), api.ErrTwice},
		{"crossed", bookOf(bid(1, 6), ask(2, 5)), api.ErrForm},
		{"crossed at one price", bookOf(bid(1, 5), ask(2, 5)), api.ErrForm},
		{"form ahead of twice, of one order", bookOf(bid(1, 5), bid(2, 5), bid(1, 6)), api.ErrForm},
		{"the first order's error: twice", bookOf(bid(1, 6), bid(1, 5), bid(0, 4)), api.ErrTwice},
		{"the first order's error: who", bookOf(bid(0, 6), bid(1, 5), bid(1, 4)), api.ErrWho},
		{"bids ahead of asks", bookOf(bid(1, 6), bid(1, 5), ask(0, 4)), api.ErrTwice},
		{"all of a bid ahead of the asks", bookOf(bid(1, 0), ask(0, 4)), api.ErrRange},
		{"an ask's error ahead of crossed", bookOf(bid(1, 6), ask(1, 5)), api.ErrTwice},
		{"an order's own error ahead of its side", api.Book{Bids: []api.Order{ask(1, 0)}}, api.ErrRange},
		{"an order's own error ahead of its place", bookOf(bid(1, 5), changed(bid(2, 6), func(o *api.Order) { o.Qty = 0 })), api.ErrRange},
	}
}

func TestCheck(t *testing.T) {
	for _, c := range slices.Concat(goodBooks(), badBooks()) {
		if got := Check(c.b); got != c.want {
			t.Errorf("%s: Check(%+v) = %d, want %d", c.name, c.b, got, c.want)
		}
	}
	for _, c := range orderCases() {
		if c.o.Side == api.Sell {
			continue
		}
		if got := Check(api.Book{Bids: []api.Order{c.o}}); got != c.want {
			t.Errorf("%s: Check of %+v alone = %d, want %d", c.name, c.o, got, c.want)
		}
	}
}

// The others that take a book say Check's error ahead of their own, and nothing else.
func TestOthersSayCheckFirst(t *testing.T) {
	for _, c := range badBooks() {
		for _, id := range []int{-1, 0, 1, 2, api.MaxID + 1} {
			if o, e := Find(c.b, id); o != (api.Order{}) || e != c.want {
				t.Errorf("%s: Find(%d) = %+v, %d, want error %d", c.name, id, o, e, c.want)
			}
			if b, o, e := Remove(c.b, id); !isZero(b) || o != (api.Order{}) || e != c.want {
				t.Errorf("%s: Remove(%d) = %+v, %+v, %d, want error %d", c.name, id, b, o, e, c.want)
			}
		}
		if x, y, e := Best(c.b); x != 0 || y != 0 || e != c.want {
			t.Errorf("%s: Best = %d, %d, %d, want error %d", c.name, x, y, e, c.want)
		}
		for _, o := range []api.Order{{}, bid(1, 1), bid(api.MaxID, 1), bid(api.MaxID, 0), ask(1, 1), ask(9, 0)} {
			if b, e := Rest(c.b, o); !isZero(b) || e != c.want {
				t.Errorf("%s: Rest(%+v) = %+v, %d, want error %d", c.name, o, b, e, c.want)
			}
		}
	}
}

func TestSame(t *testing.T) {
	for _, c := range slices.Concat(goodBooks(), badBooks()) {
		if !Same(c.b, clone(c.b)) {
			t.Errorf("%s: it isn't the same as its copy", c.name)
		}
	}
	if !Same(api.Book{}, api.Book{Bids: []api.Order{}, Asks: []api.Order{}}) {
		t.Error("no list and an empty one aren't the same")
	}
	changes := []func(*api.Order){
		func(o *api.Order) { o.ID++ },
		func(o *api.Order) { o.Account++ },
		func(o *api.Order) { o.Side++ },
		func(o *api.Order) { o.Price++ },
		func(o *api.Order) { o.Qty++ },
	}
	for i, change := range changes {
		for at := range 3 {
			b, a := some(), some()
			change(&b.Bids[at])
			change(&a.Asks[at])
			for _, x := range []api.Book{b, a} {
				if Same(x, some()) || Same(some(), x) {
					t.Errorf("change %d of order %d: %+v is the same as %+v", i, at, x, some())
				}
			}
		}
	}
	shorter, swapped, moved := some(), some(), some()
	shorter.Asks = shorter.Asks[:2]
	swapped.Bids, swapped.Asks = swapped.Asks, swapped.Bids
	moved.Bids[0], moved.Bids[1] = moved.Bids[1], moved.Bids[0]
	for _, x := range []api.Book{shorter, swapped, moved, {}} {
		if Same(x, some()) || Same(some(), x) {
			t.Errorf("%+v is the same as %+v", x, some())
		}
	}
}

func TestFind(t *testing.T) {
	b := some()
	for _, o := range slices.Concat(b.Bids, b.Asks) {
		if got, e := Find(b, o.ID); got != o || e != api.OK {
			t.Errorf("Find(%d) = %+v, %d, want %+v", o.ID, got, e, o)
		}
	}
	for _, id := range []int{6, 8, 0, -1, api.MaxID, api.MaxID + 1, math.MinInt, math.MaxInt} {
		if got, e := Find(b, id); got != (api.Order{}) || e != api.ErrWho {
			t.Errorf("Find(%d) = %+v, %d, want nothing, %d", id, got, e, api.ErrWho)
		}
	}
	if got, e := Find(api.Book{}, 1); got != (api.Order{}) || e != api.ErrWho {
		t.Errorf("Find in no orders = %+v, %d, want nothing, %d", got, e, api.ErrWho)
	}
}

func TestBest(t *testing.T) {
	for _, c := range []struct {
		b        api.Book
		bid, ask int
	}{
		{api.Book{}, 0, 0},
		{bookOf(bid(1, 5)), 5, 0},
		{bookOf(ask(1, 5)), 0, 5},
		{some(), 6, 8},
		{full(), 100, 200},
	} {
		if x, y, e := Best(c.b); x != c.bid || y != c.ask || e != api.OK {
			t.Errorf("Best(%+v) = %d, %d, %d, want %d, %d", c.b, x, y, e, c.bid, c.ask)
		}
	}
}

func TestRestPlaces(t *testing.T) {
	for _, c := range []struct {
		name       string
		o          api.Order
		bids, asks []int
	}{
		{"best bid", bid(9, 7), []int{9, 3, 1, 2}, []int{4, 5, 7}},
		{"last of the best price", bid(9, 6), []int{3, 9, 1, 2}, []int{4, 5, 7}},
		{"last of a price", bid(9, 5), []int{3, 1, 2, 9}, []int{4, 5, 7}},
		{"worst bid", bid(9, 4), []int{3, 1, 2, 9}, []int{4, 5, 7}},
		{"best ask", ask(9, 7), []int{3, 1, 2}, []int{9, 4, 5, 7}},
		{"last of the best ask price", ask(9, 8), []int{3, 1, 2}, []int{4, 9, 5, 7}},
		{"last of an ask price", ask(9, 9), []int{3, 1, 2}, []int{4, 5, 7, 9}},
		{"between two of its price, by ID", ask(6, 9), []int{3, 1, 2}, []int{4, 5, 6, 7}},
		{"worst ask", ask(9, 10), []int{3, 1, 2}, []int{4, 5, 7, 9}},
	} {
		b, e := Rest(some(), c.o)
		if e != api.OK || !slices.Equal(ids(b.Bids), c.bids) || !slices.Equal(ids(b.Asks), c.asks) {
			t.Errorf("%s: Rest = %v, %v, %d, want %v, %v", c.name, ids(b.Bids), ids(b.Asks), e, c.bids, c.asks)
		}
		if got, e := Find(b, c.o.ID); got != c.o || e != api.OK {
			t.Errorf("%s: it rests as %+v, %d, want %+v", c.name, got, e, c.o)
		}
	}
	for _, o := range []api.Order{bid(1, 5), ask(1, 5)} {
		if b, e := Rest(api.Book{}, o); e != api.OK || !Same(b, bookOf(o)) {
			t.Errorf("Rest(nothing, %+v) = %+v, %d", o, b, e)
		}
	}
}

func TestRestErrors(t *testing.T) {
	zero := api.Order{}
	for _, c := range []struct {
		name string
		b    api.Book
		o    api.Order
		want api.Errno
	}{
		{"its ID is on its side", some(), bid(1, 4), api.ErrTwice},
		{"its ID is on the other side", some(), bid(7, 4), api.ErrTwice},
		{"twice ahead of its own error", some(), changed(bid(1, 4), func(o *api.Order) { o.Account, o.Side, o.Qty = -1, 0, 0 }), api.ErrTwice},
		{"twice ahead of full", full(), bid(1, 4), api.ErrTwice},
		{"twice ahead of post", some(), bid(1, 20), api.ErrTwice},
		{"nothing", some(), zero, api.ErrWho},
		{"its own error ahead of full", full(), bid(50, 0), api.ErrRange},
		{"no side", some(), changed(bid(9, 4), func(o *api.Order) { o.Side = 2 }), api.ErrForm},
		{"its own error ahead of post", some(), bid(9, api.MaxPrice+1), api.ErrRange},
		{"full", full(), bid(50, 1), api.ErrFull},
		{"full, the other side", full(), ask(50, api.MaxPrice), api.ErrFull},
		{"full ahead of post", full(), bid(50, api.MaxPrice), api.ErrFull},
		{"a bid at the best ask", some(), bid(9, 8), api.ErrPost},
		{"a bid above the best ask", some(), bid(9, 20), api.ErrPost},
		{"an ask at the best bid", some(), ask(9, 6), api.ErrPost},
		{"an ask below the best bid", some(), ask(9, 1), api.ErrPost},
		{"its own account's order counts, too", bookOf(bid(1, 5)), changed(ask(9, 5), func(o *api.Order) { o.Account = 1 }), api.ErrPost},
	} {
		if b, e := Rest(c.b, c.o); !isZero(b) || e != c.want {
			t.Errorf("%s: Rest(%+v) = %+v, %d, want error %d", c.name, c.o, b, e, c.want)
		}
	}
	for _, c := range orderCases() {
		if b, e := Rest(api.Book{}, c.o); e != c.want || isZero(b) != (e != api.OK) {
			t.Errorf("%s: Rest(nothing, %+v) = %+v, %d, want error %d", c.name, c.o, b, e, c.want)
		}
	}
}

// As many as there may be, of one side or of both, have room.
func TestRestUpToFull(t *testing.T) {
	for _, both := range []bool{false, true} {
		var b api.Book
		for i := range api.MaxOrders + 1 {
			o := bid(1+i, 10)
			if both && i%2 == 1 {
				o = ask(1+i, 11)
			}
			next, e := Rest(b, o)
			if i == api.MaxOrders {
				if e != api.ErrFull || !isZero(next) {
					t.Errorf("one more = %+v, %d, want error %d", next, e, api.ErrFull)
				}
				break
			}
			if e != api.OK || count(next) != i+1 || Check(next) != api.OK {
				t.Fatalf("order %d: Rest = %+v, %d", i, next, e)
			}
			b = next
		}
	}
}

func TestRemove(t *testing.T) {
	b := some()
	for _, o := range slices.Concat(b.Bids, b.Asks) {
		isO := func(x api.Order) bool { return x == o }
		want := clone(b)
		want.Bids, want.Asks = slices.DeleteFunc(want.Bids, isO), slices.DeleteFunc(want.Asks, isO)
		got, gone, e := Remove(b, o.ID)
		if e != api.OK || gone != o || !Same(got, want) {
			t.Errorf("Remove(%d) = %+v, %+v, %d, want %+v, %+v", o.ID, got, gone, e, want, o)
		}
	}
	for _, id := range []int{6, 0, -1, api.MaxID + 1, math.MinInt} {
		if got, gone, e := Remove(b, id); !isZero(got) || gone != (api.Order{}) || e != api.ErrWho {
			t.Errorf("Remove(%d) = %+v, %+v, %d, want nothing, %d", id, got, gone, e, api.ErrWho)
		}
	}
	if got, gone, e := Remove(bookOf(bid(1, 5)), 1); e != api.OK || gone != bid(1, 5) || !isZero(got) {
		t.Errorf("Remove of the only one = %+v, %+v, %d", got, gone, e)
	}
}

// anyOrder is mostly one that may rest, with prices and IDs so close that they meet.
func anyOrder(r *rand.Rand) api.Order {
	o := api.Order{ID: 1 + r.Intn(60), Account: r.Intn(api.MaxAccounts), Side: api.Buy, Price: 1 + r.Intn(8), Qty: 1 + r.Intn(api.MaxQty)}
	if r.Intn(2) == 0 {
		o.Side, o.Price = api.Sell, 6+r.Intn(8)
	}
	return o
}

// wantRest says plainly what may rest in a book that may be, and sorts where Rest looks for a place.
func wantRest(b api.Book, o api.Order) (api.Book, api.Errno) {
	all := slices.Concat(b.Bids, b.Asks)
	for _, x := range all {
		if x.ID == o.ID {
			return api.Book{}, api.ErrTwice
		}
	}
	if len(all) == api.MaxOrders {
		return api.Book{}, api.ErrFull
	}
	for _, x := range all {
		// Over all of the other side: the best one is crossed, if any is.
		if x.Side != o.Side && (x.Price-o.Price)*o.Side <= 0 {
			return api.Book{}, api.ErrPost
		}
	}
	out := bookOf(append(all, o)...)
	for _, l := range [][]api.Order{out.Bids, out.Asks} {
		slices.SortFunc(l, func(x, y api.Order) int {
			if x.Price != y.Price {
				return (y.Price - x.Price) * x.Side
			}
			return x.ID - y.ID
		})
	}
	return out, api.OK
}

// P2.4, and Rest against a plain one, over books that grow by chance.
func TestRemoveOfRest(t *testing.T) {
	r := rand.New(rand.NewSource(1))
	seen := map[api.Errno]int{}
	for range 200 {
		var b api.Book
		for range 120 {
			o := anyOrder(r)
			next, e := Rest(b, o)
			seen[e]++
			want, we := wantRest(b, o)
			if e != we || !Same(next, want) {
				t.Fatalf("Rest(%+v, %+v) = %+v, %d, want %+v, %d", b, o, next, e, want, we)
			}
			if e != api.OK {
				continue
			}
			if e := Check(next); e != api.OK {
				t.Fatalf("Check of Rest(%+v, %+v) = %d", b, o, e)
			}
			was, gone, e := Remove(next, o.ID)
			if e != api.OK || gone != o || !Same(was, b) {
				t.Fatalf("Remove of Rest(%+v, %+v) = %+v, %+v, %d", b, o, was, gone, e)
			}
			b = next
		}
	}
	for _, e := range []api.Errno{api.OK, api.ErrTwice, api.ErrFull, api.ErrPost} {
		if seen[e] == 0 {
			t.Errorf("no order was answered %d", e)
		}
	}
}

// roomy answers b in lists with spare room, and all of that room.
func roomy(b api.Book) (api.Book, []api.Order) {
	var room []api.Order
	mark := api.Order{ID: -7}
	room = append(room, b.Bids...)
	room = append(room, mark, mark, mark)
	at := len(room)
	room = append(room, b.Asks...)
	room = append(room, mark, mark, mark)
	return api.Book{Bids: room[:len(b.Bids)], Asks: room[at : at+len(b.Asks)]}, room
}

func TestOnlyReads(t *testing.T) {
	for _, c := range slices.Concat(goodBooks(), badBooks()) {
		b, room := roomy(c.b)
		kept := slices.Clone(room)
		Check(b)
		Same(b, b)
		Best(b)
		for _, o := range []api.Order{bid(60, 1), ask(61, api.MaxPrice), bid(62, api.MaxPrice), bid(1, 1)} {
			Rest(b, o)
			Find(b, o.ID)
		}
		for id := range 110 {
			Remove(b, id)
		}
		if !slices.Equal(room, kept) {
			t.Errorf("%s: what was handed in is changed: %+v, was %+v", c.name, room, kept)
		}
	}
}

// overwrite fills a list and the spare room behind it.
func overwrite(l []api.Order) {
	l = l[:cap(l)]
	for i := range l {
		l[i] = api.Order{ID: -9}
	}
}

func TestAnswersAreNewMemory(t *testing.T) {
	calls := []func(api.Book) (api.Book, api.Errno){
		func(b api.Book) (api.Book, api.Errno) { return Rest(b, bid(60, 1)) },
		func(b api.Book) (api.Book, api.Errno) { return Rest(b, ask(60, api.MaxPrice)) },
		func(b api.Book) (api.Book, api.Errno) { out, _, e := Remove(b, 3); return out, e },
		func(b api.Book) (api.Book, api.Errno) { out, _, e := Remove(b, 7); return out, e },
	}
	for i, call := range calls {
		for _, was := range []api.Book{some(), {Bids: some().Bids}, {Asks: some().Asks}} {
			b, room := roomy(was)
			out, e := call(b)
			if e == api.ErrWho {
				continue
			}
			kept, first, asks := slices.Clone(room), clone(out), slices.Clone(out.Asks)
			overwrite(out.Bids)
			if !slices.Equal(out.Asks, asks) {
				t.Errorf("call %d: the answer's lists share memory", i)
			}
			overwrite(out.Asks)
			if !slices.Equal(room, kept) {
				t.Errorf("call %d: the answer shares memory with what was handed in", i)
			}
			if again, _ := call(b); !Same(again, first) {
				t.Errorf("call %d: it answers %+v, and then %+v", i, first, again)
			}
		}
	}
}
