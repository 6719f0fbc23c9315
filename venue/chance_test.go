package venue

import (
	"math"
	"math/rand"
	"slices"
	"testing"

	"tollbooth/account"
	"tollbooth/api"
	"tollbooth/book"
	"tollbooth/risk"
)

// ledger: what follows of events alone, worked out without the venue's own steps.
type ledger struct {
	balance   map[int]int
	position  map[[2]int]int // of a market, an account
	left      map[[2]int]int // of a market, an order
	last      map[int]int
	insurance int
	moved     int
}

func ledgerOf(v api.Venue) ledger {
	l := ledger{map[int]int{}, map[[2]int]int{}, map[[2]int]int{}, map[int]int{}, v.Insurance, 0}
	for _, a := range v.Accounts {
		l.balance[a.ID] = a.Balance
		for market, n := range a.Pos {
			l.position[[2]int{market, a.ID}] = n
		}
	}
	for market, m := range v.Markets {
		l.last[market] = m.Last
		for _, o := range slices.Concat(m.B.Bids, m.B.Asks) {
			l.left[[2]int{market, o.ID}] = o.Qty
		}
	}
	return l
}

func (l *ledger) trade(market int, f api.Fill) {
	l.balance[f.TakerAccount] -= f.Side * f.Qty * f.Price
	l.balance[f.MakerAccount] += f.Side * f.Qty * f.Price
	l.position[[2]int{market, f.TakerAccount}] += f.Side * f.Qty
	l.position[[2]int{market, f.MakerAccount}] -= f.Side * f.Qty
}

// add takes an event of a command that asked for so many.
func (l *ledger) add(event api.Event, qty int) {
	switch event.Kind {
	case api.Accepted:
		l.left[[2]int{event.Market, event.ID}] = qty
	case api.Filled:
		l.trade(event.Market, event.F)
		l.last[event.Market] = event.F.Price
		l.left[[2]int{event.Market, event.F.Maker}] -= event.F.Qty
		if event.F.Taker != api.MaxID {
			l.left[[2]int{event.Market, event.F.Taker}] -= event.F.Qty
			fee := (event.F.Qty*event.F.Price*5 + 9999) / 10000
			l.balance[event.F.TakerAccount] -= fee
			l.insurance += fee
		}
	case api.Gone:
		l.left[[2]int{event.Market, event.ID}] -= event.N
	case api.Moved:
		l.balance[event.Account] += event.N
		l.moved += event.N
	case api.Closed:
		l.trade(event.Market, event.F)
	}
}

// agrees: is the venue what the ledger says?
func (l *ledger) agrees(v api.Venue) bool {
	for _, a := range v.Accounts {
		if l.balance[a.ID] != a.Balance {
			return false
		}
		for market, n := range a.Pos {
			if l.position[[2]int{market, a.ID}] != n {
				return false
			}
		}
	}
	resting := 0
	for market, m := range v.Markets {
		if l.last[market] != m.Last {
			return false
		}
		for _, o := range slices.Concat(m.B.Bids, m.B.Asks) {
			resting++
			if l.left[[2]int{market, o.ID}] != o.Qty {
				return false
			}
		}
	}
	for _, n := range l.left {
		if n != 0 {
			resting--
		}
	}
	return resting == 0 && l.insurance == v.Insurance
}

// anyCommand answers one that may well be done to v.
func anyCommand(r *rand.Rand, v api.Venue) api.Command {
	who, market := r.Intn(5), r.Intn(len(v.Markets))
	near := v.Markets[market].Index + r.Intn(21) - 10
	side := api.Buy - 2*r.Intn(2)
	switch r.Intn(20) {
	case 0, 1:
		return deposit(who, 1+r.Intn(300))
	case 2:
		return withdraw(who, 1+r.Intn(200))
	case 3:
		return reduce(who, market, side, 1+r.Intn(40), max(1, near+10*side))
	case 4:
		return cancel(who, 1+r.Intn(v.Next))
	case 5, 6:
		return index(market, min(dearest, max(1, near)))
	case 7:
		return funding(market, r.Intn(2*api.MaxRate+3)-api.MaxRate-1)
	case 8, 9:
		return sweep()
	}
	return place(who, market, side, 1+r.Intn(40), max(1, near), api.Limit+r.Intn(4))
}

// qtyOf answers how much an order of c is of, where it is accepted.
func qtyOf(v api.Venue, c api.Command) int {
	for _, a := range v.Accounts {
		if c.Reduce && a.ID == c.Account {
			return min(c.O.Qty, max(a.Pos[c.Market], -a.Pos[c.Market]))
		}
	}
	return c.O.Qty
}

// paid answers what came in, or went out, or was covered by insurance, or was left over: by which the Balances moved.
func paid(v, w api.Venue, kind int) int {
	switch kind {
	case api.Sweep:
		return v.Insurance - w.Insurance
	case api.Fund:
		return v.Residue - w.Residue
	}
	return w.In - v.In - (w.Out - v.Out)
}

// follows holds P7.5 and the events against what became of a command.
func follows(t *testing.T, v, w api.Venue, c api.Command, events []api.Event) {
	t.Helper()
	l := ledgerOf(v)
	for _, event := range events {
		l.add(event, qtyOf(v, c))
	}
	if c.Kind == api.Sweep {
		l.insurance -= l.moved
	}
	if !l.agrees(w) || l.moved != paid(v, w, c.Kind) {
		t.Fatalf("%+v of %+v: %+v says otherwise than %+v", c, v, events, w)
	}
	money, positions := w.Insurance+w.Residue-w.In+w.Out, [2]int{}
	for _, a := range w.Accounts {
		money += a.Balance
		for market, n := range a.Pos {
			positions[market] += n
		}
	}
	if money != 0 || positions != [2]int{} {
		t.Fatalf("%+v of %+v: %d is made, positions of nobody: %v", c, v, money, positions)
	}
	for _, m := range w.Markets {
		if e := book.Check(m.B); e != api.OK {
			t.Fatalf("%+v of %+v: the book is of %d", c, v, e)
		}
	}
}

// isReady: has the account of a command what it wants to begin, with the order's rest?
func isReady(w api.Venue, c api.Command, id int) bool {
	at := slices.IndexFunc(w.Accounts, func(a api.Account) bool { return a.ID == c.Account })
	a := w.Accounts[at]
	for market, m := range w.Markets {
		for _, o := range slices.Concat(m.B.Bids, m.B.Asks) {
			if o.ID == id {
				a, _ = account.Trade(a, market, o.Side*o.Qty, o.Price, 0)
			}
		}
	}
	marks, _ := risk.Marks(w.Markets)
	begin, _, e := risk.Sound(a, marks)
	return begin && e == api.OK
}

// wellSwept: whoever was closed has nothing, and no debt while there is insurance.
func wellSwept(w api.Venue, events []api.Event) bool {
	for _, event := range events {
		id := event.F.TakerAccount
		if event.Kind == api.Moved || event.Kind == api.Gone {
			id = event.Account
		}
		a := w.Accounts[slices.IndexFunc(w.Accounts, func(a api.Account) bool { return a.ID == id })]
		if slices.ContainsFunc(a.Pos, func(n int) bool { return n != 0 }) || a.Balance < 0 && w.Insurance > 0 {
			return false
		}
		for _, m := range w.Markets {
			if slices.ContainsFunc(slices.Concat(m.B.Bids, m.B.Asks), func(o api.Order) bool { return o.Account == id }) {
				return false
			}
		}
	}
	return true
}

// counts: how often an event came, by its kind, and its error.
type counts map[[2]int]int

// session does so many commands as one Run may, holds against each what holds for it, and holds Run against all of them.
func session(t *testing.T, r *rand.Rand, v api.Venue, came counts) api.Venue {
	t.Helper()
	start, commands, all := v, []api.Command(nil), [][]api.Event(nil)
	for range api.MaxLines {
		c := anyCommand(r, v)
		w, events := does(t, v, c)
		follows(t, v, w, c, events)
		done := len(events) > 0 && events[0].Kind != api.Rejected
		if done && (c.Kind == api.Withdraw || c.Kind == api.Place && !c.Reduce) && !isReady(w, c, v.Next) {
			t.Fatalf("%+v of %+v: it isn't ready: %+v", c, v, w)
		}
		if done && c.Kind == api.Sweep && !wellSwept(w, events) {
			t.Fatalf("%+v of %+v: %+v, %+v", c, v, events, w)
		}
		for _, event := range events {
			came[[2]int{event.Kind, int(event.E)}]++
		}
		v, commands, all = w, append(commands, c), append(all, events)
	}
	got, told, e := Run(start, commands)
	if e != api.OK || !Same(got, v) || !slices.EqualFunc(told, all, slices.Equal) {
		t.Fatalf("Run of %+v is otherwise than one after the other", commands)
	}
	return v
}

func TestCommandsByChance(t *testing.T) {
	r := rand.New(rand.NewSource(71))
	came := counts{}
	for range 60 {
		v, e := New([]int{80 + r.Intn(41), 30 + r.Intn(41)}[:1+r.Intn(2)])
		if e != api.OK {
			t.Fatal(e)
		}
		for range 10 {
			v = session(t, r, v, came)
		}
	}
	for kind := api.Accepted; kind <= api.Closed; kind++ {
		if came[[2]int{kind, 0}] < 100 {
			t.Errorf("events of kind %d: %d", kind, came[[2]int{kind, 0}])
		}
	}
	for _, e := range []api.Errno{api.ErrRange, api.ErrWho, api.ErrMargin, api.ErrPost, api.ErrAll, api.ErrSelf, api.ErrReduce} {
		if came[[2]int{api.Rejected, int(e)}] < 10 {
			t.Errorf("rejected with %d: %d", e, came[[2]int{api.Rejected, int(e)}])
		}
	}
}

// wild answers a number at, or beyond, some limit.
func wild(r *rand.Rand) int {
	l := []int{
		math.MinInt, math.MinInt + 1, -most - 1, -most, -dearest - 1, -greatest, -2, -1, 0, 1, 2, 3, 7, 8, 40, 50, 60, 99, 100, 101,
		greatest, greatest + 1, dearest, dearest + 1, api.MaxID, api.MaxID + 1, most, most + 1, math.MaxInt - 1, math.MaxInt,
	}
	return l[r.Intn(len(l))]
}

// spoil puts a wild number somewhere.
func spoil(r *rand.Rand, v *api.Venue) {
	places := []*int{&v.Insurance, &v.Residue, &v.Next, &v.In, &v.Out}
	for i := range v.Accounts {
		a := &v.Accounts[i]
		places = append(places, &a.ID, &a.Balance, &a.Pos[0])
	}
	for i := range v.Markets {
		m := &v.Markets[i]
		places = append(places, &m.Index, &m.Last)
		for _, l := range [...][]api.Order{m.B.Bids, m.B.Asks} {
			for j := range l {
				places = append(places, &l[j].ID, &l[j].Account, &l[j].Side, &l[j].Price, &l[j].Qty)
			}
		}
	}
	*places[r.Intn(len(places))] = wild(r)
}

func TestWildInputs(t *testing.T) {
	r := rand.New(rand.NewSource(72))
	for range 30000 {
		v := full()
		for range r.Intn(3) {
			spoil(r, &v)
		}
		c := api.Command{
			Kind: r.Intn(10) - 1, Account: r.Intn(10) - 1, Market: r.Intn(4) - 1, N: wild(r), How: r.Intn(6), Reduce: r.Intn(2) == 0,
			O: api.Order{ID: wild(r), Account: wild(r), Side: r.Intn(4) - 2, Price: wild(r), Qty: wild(r)},
		}
		if r.Intn(5) == 0 {
			c.Account, c.Market, c.How = wild(r), wild(r), wild(r)
		}
		w, events, e := Do(v, c)
		if e != Check(v) {
			t.Fatalf("%+v of %+v: %d, but Check says %d", c, v, e, Check(v))
		}
		if e == api.OK && Check(w) != api.OK || e != api.OK && (events != nil || !Same(w, api.Venue{})) {
			t.Fatalf("%+v of %+v: %+v, %+v, %d", c, v, w, events, e)
		}
	}
}
