package venue

import (
	"math"
	"reflect"
	"slices"
	"testing"

	"tollbooth/api"
)

const (
	most     = api.MaxMoney
	greatest = api.MaxPosition
	dearest  = api.MaxPrice
)

func of(id, balance int, pos ...int) api.Account {
	return api.Account{ID: id, Balance: balance, Pos: pos}
}

func bid(id, account, price, qty int) api.Order {
	return api.Order{ID: id, Account: account, Side: api.Buy, Price: price, Qty: qty}
}

func ask(id, account, price, qty int) api.Order {
	return api.Order{ID: id, Account: account, Side: api.Sell, Price: price, Qty: qty}
}

// full answers a venue that has some of everything.
func full() api.Venue {
	return api.Venue{
		Accounts: []api.Account{of(0, -880, 10, 0), of(2, 1349, -10, 3), of(5, 550, 0, -3)},
		Markets: []api.Market{
			{
				B: api.Book{
					Bids: []api.Order{bid(4, 2, 95, 5), bid(1, 5, 94, 1)},
					Asks: []api.Order{ask(3, 0, 105, 2), ask(5, 5, 105, 1)},
				},
				Index: 100, Last: 101,
			},
			{B: api.Book{Bids: []api.Order{bid(6, 5, 40, 1)}}, Index: 50},
		},
		Insurance: 1, Residue: 2, Next: 7, In: 1030, Out: 8,
	}
}

// opened answers a venue of these accounts, where the sums are as they must be.
func opened(markets []api.Market, insurance int, l ...api.Account) api.Venue {
	v := api.Venue{Accounts: l, Markets: markets, Insurance: insurance, Next: 50, In: insurance}
	for _, a := range l {
		v.In += a.Balance
	}
	if v.In < 0 {
		v.In, v.Out = 0, -v.In
	}
	return v
}

func changed(v api.Venue, change func(*api.Venue)) api.Venue {
	v = copyOf(v)
	change(&v)
	return v
}

type venueCase struct {
	name   string
	change func(*api.Venue)
	want   api.Errno
}

func goodVenues() []venueCase {
	return []venueCase{
		{"as it is", func(v *api.Venue) {}, api.OK},
		{"nobody", func(v *api.Venue) {
			v.Accounts, v.In, v.Out = nil, 3, 0
			v.Markets[0].B, v.Markets[1].B = api.Book{}, api.Book{}
		}, api.OK},
		{"all who may be there", func(v *api.Venue) {
			v.Accounts = []api.Account{
				of(0, -880, 10, 0), of(1, 0, 0, 0), of(2, 1349, -10, 3), of(3, 0, 0, 0),
				of(4, 0, 0, 0), of(5, 550, 0, -3), of(6, 0, 0, 0), of(7, 0, 0, 0),
			}
		}, api.OK},
		{"the most of In", func(v *api.Venue) { v.In, v.Out = most, most-1022 }, api.OK},
		{"the most of Out", func(v *api.Venue) { v.Accounts[0].Balance, v.Out, v.In = -880-1022, most, most }, api.OK},
		{"the most of Insurance", func(v *api.Venue) { v.Insurance, v.Accounts[2].Balance = most, 551-most }, api.OK},
		{"the most of Residue", func(v *api.Venue) { v.Residue, v.Accounts[2].Balance = most, 552-most }, api.OK},
		{"nothing of either", func(v *api.Venue) { v.Insurance, v.Residue, v.In, v.Out = 0, 0, 1019, 0 }, api.OK},
		{"the last Next", func(v *api.Venue) { v.Next = api.MaxID }, api.OK},
		{"the first Next", func(v *api.Venue) { v.Next, v.Markets[0].B, v.Markets[1].B = 1, api.Book{}, api.Book{} }, api.OK},
		{"an ID in two markets", func(v *api.Venue) { v.Markets[1].B.Bids[0].ID = 4 }, api.OK},
		{"what came in isn't what is there", func(v *api.Venue) { v.In, v.Out = v.In+9, v.Out+9 }, api.OK},
	}
}

func badVenues() []venueCase {
	return []venueCase{
		{"no market", func(v *api.Venue) { v.Markets = nil }, api.ErrMany},
		{"too many markets", func(v *api.Venue) { v.Markets = append(v.Markets, v.Markets[1]) }, api.ErrMany},
		{"too many accounts", func(v *api.Venue) {
			for id := range api.MaxAccounts - 2 {
				v.Accounts = append(v.Accounts, of(id, 0, 0, 0))
			}
		}, api.ErrMany},
		{"Insurance below 0", func(v *api.Venue) { v.Insurance, v.In = -1, v.In-2 }, api.ErrRange},
		{"Residue below 0", func(v *api.Venue) { v.Residue, v.In = -1, v.In-3 }, api.ErrRange},
		{"In below 0", func(v *api.Venue) { v.In, v.Out = -1, -1023 }, api.ErrRange},
		{"Out below 0", func(v *api.Venue) { v.In, v.Out = 1021, -1 }, api.ErrRange},
		{"Insurance too much", func(v *api.Venue) { v.Insurance, v.Accounts[2].Balance = most+1, 550-most }, api.ErrRange},
		{"Residue too much", func(v *api.Venue) { v.Residue, v.Accounts[2].Balance = most+1, 551-most }, api.ErrRange},
		{"In too much", func(v *api.Venue) { v.In, v.Out = most+1, most-1021 }, api.ErrRange},
		{"Out too much", func(v *api.Venue) { v.Accounts[0].Balance, v.Out, v.In = -880-1023, most+1, most }, api.ErrRange},
		{"Next 0", func(v *api.Venue) { v.Next, v.Markets[0].B, v.Markets[1].B = 0, api.Book{}, api.Book{} }, api.ErrRange},
		{"Next too great", func(v *api.Venue) { v.Next = api.MaxID + 1 }, api.ErrRange},
		{"the least int", func(v *api.Venue) { v.Insurance = math.MinInt }, api.ErrRange},
		{"the greatest int", func(v *api.Venue) { v.Out = math.MaxInt }, api.ErrRange},
		{"an account below 0", func(v *api.Venue) { v.Accounts[0].ID = -1 }, api.ErrWho},
		{"an account too great", func(v *api.Venue) { v.Accounts[2].ID = api.MaxAccounts }, api.ErrWho},
		{"too few positions", func(v *api.Venue) { v.Accounts[1].Pos = []int{-10} }, api.ErrForm},
		{"too many positions", func(v *api.Venue) { v.Accounts[1].Pos = []int{-10, 3, 0} }, api.ErrForm},
		{"positions of another market", func(v *api.Venue) { v.Markets = v.Markets[:1] }, api.ErrForm},
		{"a Balance that is no amount", func(v *api.Venue) { v.Accounts[1].Balance = -most - 1 }, api.ErrRange},
		{"a position too great", func(v *api.Venue) { v.Accounts[1].Pos[0] = greatest + 1 }, api.ErrRange},
		{"an account twice", func(v *api.Venue) { v.Accounts[1].ID = 0 }, api.ErrTwice},
		{"accounts that aren't sorted", func(v *api.Venue) { v.Accounts[1].ID = 6 }, api.ErrTwice},
		{"money made", func(v *api.Venue) { v.Accounts[1].Balance++ }, api.ErrForm},
		{"money lost", func(v *api.Venue) { v.Insurance-- }, api.ErrForm},
		{"more came in", func(v *api.Venue) { v.In++ }, api.ErrForm},
		{"more went out", func(v *api.Venue) { v.Out++ }, api.ErrForm},
		{"a residue of nothing", func(v *api.Venue) { v.Residue++ }, api.ErrForm},
		{"a position of nobody", func(v *api.Venue) { v.Accounts[0].Pos[0]++ }, api.ErrForm},
		{"one in the second market", func(v *api.Venue) { v.Accounts[2].Pos[1]++ }, api.ErrForm},
		{"positions that are none over both", func(v *api.Venue) {
			v.Accounts[0].Pos[0]++
			v.Accounts[0].Pos[1]--
		}, api.ErrForm},
		{"no Index", func(v *api.Venue) { v.Markets[0].Index = 0 }, api.ErrRange},
		{"Last too great", func(v *api.Venue) { v.Markets[1].Last = dearest + 1 }, api.ErrRange},
		{"a crossed book", func(v *api.Venue) { v.Markets[0].B.Asks[0].Price = 95 }, api.ErrForm},
		{"an order twice", func(v *api.Venue) { v.Markets[0].B.Asks[0].ID = 4 }, api.ErrTwice},
		{"a bid of nobody", func(v *api.Venue) { v.Markets[0].B.Bids[0].Account = 3 }, api.ErrWho},
		{"an ask of nobody", func(v *api.Venue) { v.Markets[0].B.Asks[0].Account = 7 }, api.ErrWho},
		{"one of nobody in the second market", func(v *api.Venue) { v.Markets[1].B.Bids[0].Account = 1 }, api.ErrWho},
		{"an order that is Next", func(v *api.Venue) { v.Next = 6 }, api.ErrWho},
		{"an order of later", func(v *api.Venue) { v.Markets[0].B.Asks[1].ID = 8 }, api.ErrWho},
	}
}

// badTwice answers venues of which two things are wrong: the first one is told.
func badTwice() []venueCase {
	return []venueCase{
		{"many ahead of range", func(v *api.Venue) { v.Markets, v.Insurance = nil, -1 }, api.ErrMany},
		{"many ahead of accounts", func(v *api.Venue) {
			v.Markets = append(v.Markets, v.Markets[0])
			v.Accounts[0].ID = -1
		}, api.ErrMany},
		{"range ahead of accounts", func(v *api.Venue) { v.Next, v.Accounts[0].ID = 0, -1 }, api.ErrRange},
		{"an account's own ahead of twice", func(v *api.Venue) { v.Accounts[1].ID, v.Accounts[1].Balance = 0, most+1 }, api.ErrRange},
		{"the first account's, though it is twice", func(v *api.Venue) { v.Accounts[1].ID, v.Accounts[2].Balance = 0, most+1 }, api.ErrTwice},
		{"the first account's own", func(v *api.Venue) { v.Accounts[1].Balance, v.Accounts[2].ID = most+1, 2 }, api.ErrRange},
		{"twice ahead of the sums", func(v *api.Venue) { v.Accounts[1].ID, v.In = 0, v.In+1 }, api.ErrTwice},
		{"the sums ahead of a market", func(v *api.Venue) { v.In, v.Markets[0].Index = v.In+1, 0 }, api.ErrForm},
		{"the sums ahead of an order", func(v *api.Venue) { v.In, v.Next = v.In+1, 2 }, api.ErrForm},
		{"a market ahead of its orders", func(v *api.Venue) { v.Markets[0].Index, v.Next = 0, 2 }, api.ErrRange},
		{"orders ahead of the next market", func(v *api.Venue) { v.Markets[0].B.Bids[0].Account, v.Markets[1].Index = 3, 0 }, api.ErrWho},
	}
}

func TestCheck(t *testing.T) {
	for _, c := range slices.Concat(goodVenues(), badVenues(), badTwice()) {
		if e := Check(changed(full(), c.change)); e != c.want {
			t.Errorf("%s: %d, want %d", c.name, e, c.want)
		}
	}
	if e := Check(api.Venue{}); e != api.ErrMany {
		t.Errorf("nothing: %d", e)
	}
}

func TestOthersSayCheckFirst(t *testing.T) {
	many := make([]api.Command, api.MaxLines+1)
	for _, c := range slices.Concat(badVenues(), badTwice()) {
		v := changed(full(), c.change)
		w, events, e := Do(v, api.Command{Kind: -1})
		if e != c.want || events != nil || !Same(w, api.Venue{}) || w.Accounts != nil || w.Markets != nil {
			t.Errorf("Do: %s: %v, %v, %d, want %d", c.name, w, events, e, c.want)
		}
		w, came, e := Run(v, many)
		if e != c.want || came != nil || !Same(w, api.Venue{}) {
			t.Errorf("Run: %s: %v, %v, %d, want %d", c.name, w, came, e, c.want)
		}
	}
}

func TestNew(t *testing.T) {
	for _, c := range []struct {
		indexes []int
		want    api.Errno
	}{
		{[]int{100}, api.OK},
		{[]int{1, dearest}, api.OK},
		{[]int{7, 7}, api.OK},
		{nil, api.ErrMany},
		{[]int{}, api.ErrMany},
		{[]int{1, 2, 3}, api.ErrMany},
		{[]int{0, 0, 0}, api.ErrMany},
		{[]int{0}, api.ErrRange},
		{[]int{-1}, api.ErrRange},
		{[]int{5, dearest + 1}, api.ErrRange},
		{[]int{math.MinInt, 5}, api.ErrRange},
		{[]int{math.MaxInt}, api.ErrRange},
	} {
		want := api.Venue{}
		if c.want == api.OK {
			want.Next = 1
			for _, n := range c.indexes {
				want.Markets = append(want.Markets, api.Market{Index: n})
			}
		}
		v, e := New(c.indexes)
		if !Same(v, want) || e != c.want {
			t.Errorf("%v: %v, %d, want %v, %d", c.indexes, v, e, want, c.want)
		}
	}
}

func TestSame(t *testing.T) {
	for i, change := range []func(*api.Venue){
		func(v *api.Venue) { v.Insurance++ },
		func(v *api.Venue) { v.Residue++ },
		func(v *api.Venue) { v.Next++ },
		func(v *api.Venue) { v.In++ },
		func(v *api.Venue) { v.Out++ },
		func(v *api.Venue) { v.Accounts = v.Accounts[:2] },
		func(v *api.Venue) { v.Accounts = nil },
		func(v *api.Venue) { v.Accounts[1].ID++ },
		func(v *api.Venue) { v.Accounts[2].Balance++ },
		func(v *api.Venue) { v.Accounts[2].Pos[1]++ },
		func(v *api.Venue) { v.Accounts[0].Pos = nil },
		func(v *api.Venue) { v.Markets = v.Markets[:1] },
		func(v *api.Venue) { v.Markets[1].Index++ },
		func(v *api.Venue) { v.Markets[0].Last++ },
		func(v *api.Venue) { v.Markets[0].B.Bids[1].Qty++ },
		func(v *api.Venue) { v.Markets[0].B.Asks[0].Account++ },
		func(v *api.Venue) { v.Markets[1].B.Bids = nil },
		func(v *api.Venue) { v.Markets[1].B.Asks = []api.Order{{}} },
	} {
		if other := changed(full(), change); Same(full(), other) || Same(other, full()) || !Same(other, copyOf(other)) {
			t.Errorf("change %d isn't told", i)
		}
	}
	none := api.Venue{Accounts: []api.Account{}, Markets: []api.Market{}}
	if !Same(full(), full()) || !Same(api.Venue{}, none) {
		t.Error("what is alike isn't the same")
	}
	empty := changed(full(), func(v *api.Venue) { v.Markets[1].B.Asks = []api.Order{} })
	if !Same(full(), empty) {
		t.Error("an empty list isn't the same as none")
	}
}

func TestRun(t *testing.T) {
	commands := []api.Command{
		deposit(0, 1000), deposit(3, 1000), {}, place(0, 0, api.Buy, 5, 100, api.Limit),
		place(3, 0, api.Sell, 3, 99, api.Now), cancel(0, 1),
	}
	v, e := New([]int{100})
	if e != api.OK {
		t.Fatal(e)
	}
	got, came, e := Run(v, commands)
	want := [][]api.Event{
		{moved(0, 1000)},
		{moved(3, 1000)},
		{rejected(api.ErrForm)},
		{accepted(0, 1, 0)},
		{accepted(0, 2, 3), filled(0, fillOf(bid(1, 0, 100, 3), 2, 3))},
		{gone(0, 1, 0, 2)},
	}
	if e != api.OK || !slices.EqualFunc(came, want, slices.Equal) {
		t.Errorf("%v, %d, want %v", came, e, want)
	}
	after := api.Venue{
		Accounts: []api.Account{of(0, 700, 3), of(3, 1299, -3)}, Markets: []api.Market{{Index: 100, Last: 100}},
		Insurance: 1, Next: 3, In: 2000,
	}
	if !Same(got, after) {
		t.Errorf("%v, want %v", got, after)
	}
}

func TestRunOfSoMany(t *testing.T) {
	l := make([]api.Command, api.MaxLines)
	for i := range l {
		l[i] = index(1, i+1)
	}
	got, came, e := Run(full(), l)
	want := changed(full(), func(v *api.Venue) { v.Markets[1].Index = api.MaxLines })
	if e != api.OK || len(came) != api.MaxLines || !Same(got, want) {
		t.Errorf("%v, %v, %d", got, came, e)
	}
	got, came, e = Run(full(), append(l, index(1, 1)))
	if e != api.ErrMany || came != nil || !Same(got, api.Venue{}) {
		t.Errorf("one too many: %v, %v, %d", got, came, e)
	}
	got, came, e = Run(full(), nil)
	if e != api.OK || len(came) != 0 || !Same(got, full()) {
		t.Errorf("none: %v, %v, %d", got, came, e)
	}
}

// roomy answers a list with spare room behind it.
func roomy[T any](l []T, spare T) []T { return append(slices.Clone(l), spare, spare)[:len(l)] }

// roomyVenue answers v, all of its lists with spare room behind them.
func roomyVenue(v api.Venue) api.Venue {
	v.Accounts = roomy(v.Accounts, of(77, 77))
	for i, a := range v.Accounts {
		v.Accounts[i].Pos = roomy(a.Pos, 77)
	}
	v.Markets = roomy(v.Markets, api.Market{Index: 77})
	for i, m := range v.Markets {
		v.Markets[i].B = api.Book{Bids: roomy(m.B.Bids, bid(77, 0, 1, 1)), Asks: roomy(m.B.Asks, ask(77, 0, 1, 1))}
	}
	return v
}

// withRooms answers a copy of v in which the spare room of each list is part of it.
func withRooms(v api.Venue) api.Venue {
	inner := func(v api.Venue) api.Venue {
		for i, a := range v.Accounts {
			v.Accounts[i].Pos = a.Pos[:cap(a.Pos)]
		}
		for i, m := range v.Markets {
			v.Markets[i].B = api.Book{Bids: m.B.Bids[:cap(m.B.Bids)], Asks: m.B.Asks[:cap(m.B.Asks)]}
		}
		return v
	}
	v.Accounts, v.Markets = slices.Clone(v.Accounts[:cap(v.Accounts)]), slices.Clone(v.Markets[:cap(v.Markets)])
	return copyOf(inner(v))
}

// span: where a list is in memory, with its spare room.
type span struct{ from, to uintptr }

func spanOf[T any](l []T) span {
	from := reflect.ValueOf(l).Pointer()
	return span{from, from + uintptr(cap(l))*reflect.TypeFor[T]().Size()}
}

func spansOf(v api.Venue) []span {
	l := []span{spanOf(v.Accounts), spanOf(v.Markets)}
	for _, a := range v.Accounts {
		l = append(l, spanOf(a.Pos))
	}
	for _, m := range v.Markets {
		l = append(l, spanOf(m.B.Bids), spanOf(m.B.Asks))
	}
	return l
}

func meet(a, b span) bool { return a.from < b.to && b.from < a.to }

// apart: does no list of the answer share memory with another one of it, or with one that was handed in?
func apart(answer, in []span) bool {
	for i, a := range answer {
		meets := func(b span) bool { return meet(a, b) }
		if slices.ContainsFunc(answer[i+1:], meets) || slices.ContainsFunc(in, meets) {
			return false
		}
	}
	return true
}

// commandsOfAllKinds: what can be done to full, and what can't.
func commandsOfAllKinds() []api.Command {
	return []api.Command{
		deposit(2, 9), deposit(3, 9), withdraw(2, 9), withdraw(5, 9999), cancel(5, 6), cancel(5, 4), index(1, 30), index(0, 60),
		funding(0, 100), funding(1, -100), funding(0, 101), sweep(), {}, {Kind: 99},
		place(5, 0, api.Buy, 1, 96, api.Limit), place(5, 0, api.Buy, 3, 105, api.Now), place(2, 0, api.Buy, 1, 105, api.Whole),
		place(2, 1, api.Sell, 1, 41, api.Post), place(2, 1, api.Sell, 1, 40, api.Limit), reduce(2, 0, api.Buy, 9, 105),
		place(5, 1, api.Sell, 1, 40, api.Now), place(2, 0, api.Buy, 999, 1, api.Limit),
	}
}

func startsOfAllKinds() []api.Venue {
	fallen := changed(full(), func(v *api.Venue) { v.Markets[0].Index = 60 })
	one, _ := New([]int{100})
	two, _ := New([]int{100, 50})
	return []api.Venue{full(), fallen, one, two}
}

func TestDoMemory(t *testing.T) {
	for _, start := range startsOfAllKinds() {
		for _, c := range commandsOfAllKinds() {
			v := roomyVenue(start)
			ahead := withRooms(v)
			got, events, e := Do(v, c)
			if e != api.OK || !Same(withRooms(v), ahead) {
				t.Errorf("%+v: %d, or what was handed in is changed", c, e)
			}
			if !apart(append(spansOf(got), spanOf(events)), spansOf(v)) {
				t.Errorf("%+v: lists share memory", c)
			}
			again, same, e := Do(v, c)
			if !Same(again, got) || !slices.Equal(events, same) || e != api.OK {
				t.Errorf("%+v: it answers %v, %v, and then %v, %v", c, got, events, again, same)
			}
		}
	}
}

func TestRunMemory(t *testing.T) {
	for _, start := range startsOfAllKinds() {
		for n := range 3 {
			v := roomyVenue(start)
			ahead := withRooms(v)
			l := slices.Repeat(commandsOfAllKinds(), n)
			kept := slices.Clone(l)
			got, came, e := Run(v, l)
			if e != api.OK || !Same(withRooms(v), ahead) || !slices.Equal(l, kept) {
				t.Errorf("%d: %d, or what was handed in is changed", n, e)
			}
			spans := append(spansOf(got), spanOf(came))
			for _, events := range came {
				spans = append(spans, spanOf(events))
			}
			if !apart(spans, append(spansOf(v), spanOf(l))) {
				t.Errorf("%d: lists share memory", n)
			}
		}
	}
}

func TestSharedLists(t *testing.T) {
	// What is handed in may share what it wants.
	pos, none := []int{0}, []api.Order{}
	v := api.Venue{
		Accounts: []api.Account{{ID: 0, Pos: pos}, {ID: 1, Balance: 500, Pos: pos}},
		Markets:  []api.Market{{B: api.Book{Bids: none, Asks: none}, Index: 100}},
		Next:     1, In: 500,
	}
	got, _, e := Do(v, deposit(0, 400))
	if e != api.OK || !apart(spansOf(got), spansOf(v)) {
		t.Errorf("%v, %d, or lists share memory", got, e)
	}
}
