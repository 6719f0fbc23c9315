package text

import (
	"math"
	"math/rand"
	"regexp"
	"strconv"
	"strings"
	"testing"

	"tollbooth/api"
)

const (
	greatest = "9223372036854775807"
	least    = "-9223372036854775808"
)

func placeOf(side, qty, price, how int, cut bool) api.Command {
	return api.Command{
		Kind: api.Place, Account: 3, Market: 1, How: how, Reduce: cut,
		O: api.Order{Side: side, Price: price, Qty: qty},
	}
}

// pairs: commands, and how each is written.
func pairs() map[string]api.Command {
	return map[string]api.Command{
		"deposit 0 5":                   {Kind: api.Deposit, N: 5},
		"deposit 7 1000000000000":       {Kind: api.Deposit, Account: 7, N: api.MaxMoney},
		"deposit 0 0":                   {Kind: api.Deposit},
		"deposit -1 -10":                {Kind: api.Deposit, Account: -1, N: -10},
		"withdraw 2 30":                 {Kind: api.Withdraw, Account: 2, N: 30},
		"withdraw 0 " + least:           {Kind: api.Withdraw, N: math.MinInt},
		"cancel 3 100000":               {Kind: api.Cancel, Account: 3, N: api.MaxID},
		"cancel " + greatest + " -7":    {Kind: api.Cancel, Account: math.MaxInt, N: -7},
		"index 1 50":                    {Kind: api.Index, Market: 1, N: 50},
		"index 0 0":                     {Kind: api.Index},
		"fund 0 -100":                   {Kind: api.Fund, N: -100},
		"fund -2 99":                    {Kind: api.Fund, Market: -2, N: 99},
		"sweep":                         {Kind: api.Sweep},
		"place 3 1 buy 2 7 limit":       placeOf(api.Buy, 2, 7, api.Limit, false),
		"place 3 1 buy 2 7 now":         placeOf(api.Buy, 2, 7, api.Now, false),
		"place 3 1 buy 2 7 whole":       placeOf(api.Buy, 2, 7, api.Whole, false),
		"place 3 1 buy 2 7 post":        placeOf(api.Buy, 2, 7, api.Post, false),
		"place 3 1 sell 2 7 limit":      placeOf(api.Sell, 2, 7, api.Limit, false),
		"place 3 1 sell 2 7 now":        placeOf(api.Sell, 2, 7, api.Now, false),
		"place 3 1 sell 2 7 whole":      placeOf(api.Sell, 2, 7, api.Whole, false),
		"place 3 1 sell 2 7 post":       placeOf(api.Sell, 2, 7, api.Post, false),
		"place 3 1 sell 2 7 now reduce": placeOf(api.Sell, 2, 7, api.Now, true),
		// Whether it may be done, the venue says: a text it is.
		"place 3 1 buy 2 7 post reduce":   placeOf(api.Buy, 2, 7, api.Post, true),
		"place 3 1 buy 2 7 limit reduce":  placeOf(api.Buy, 2, 7, api.Limit, true),
		"place 3 1 buy -2 0 whole reduce": placeOf(api.Buy, -2, 0, api.Whole, true),
		"place 0 0 sell 0 0 limit":        {Kind: api.Place, How: api.Limit, O: api.Order{Side: api.Sell}},
		"place 0 0 buy " + least + " " + greatest + " now": {
			Kind: api.Place, How: api.Now, O: api.Order{Side: api.Buy, Qty: math.MinInt, Price: math.MaxInt},
		},
	}
}

func TestPrintAndParse(t *testing.T) {
	for s, c := range pairs() {
		if e := Check(c); e != api.OK {
			t.Errorf("Check of %q: %d", s, e)
		}
		if got, e := Print(c); got != s || e != api.OK {
			t.Errorf("Print: %q, %d, want %q", got, e, s)
		}
		if got, e := Parse(s); got != c || e != api.OK {
			t.Errorf("Parse of %q: %+v, %d, want %+v", s, got, e, c)
		}
	}
}

// fields: one change each, by the name of what it changes.
func fields() map[string]func(*api.Command, int) {
	return map[string]func(*api.Command, int){
		"Account":   func(c *api.Command, n int) { c.Account = n },
		"Market":    func(c *api.Command, n int) { c.Market = n },
		"N":         func(c *api.Command, n int) { c.N = n },
		"O.ID":      func(c *api.Command, n int) { c.O.ID = n },
		"O.Account": func(c *api.Command, n int) { c.O.Account = n },
		"O.Side":    func(c *api.Command, n int) { c.O.Side = n },
		"O.Price":   func(c *api.Command, n int) { c.O.Price = n },
		"O.Qty":     func(c *api.Command, n int) { c.O.Qty = n },
		"How":       func(c *api.Command, n int) { c.How = n },
		"Reduce":    func(c *api.Command, _ int) { c.Reduce = true },
	}
}

func TestCheckOfEachField(t *testing.T) {
	place := placeOf(api.Buy, 0, 0, api.Limit, false)
	for _, k := range []struct {
		c   api.Command
		use string
	}{
		{api.Command{Kind: api.Deposit}, " Account N "},
		{api.Command{Kind: api.Withdraw}, " Account N "},
		{api.Command{Kind: api.Cancel}, " Account N "},
		{api.Command{Kind: api.Index}, " Market N "},
		{api.Command{Kind: api.Fund}, " Market N "},
		{api.Command{Kind: api.Sweep}, " "},
		{place, " Account Market O.Side O.Price O.Qty How Reduce "},
	} {
		for name, change := range fields() {
			for _, n := range []int{1, -1, math.MaxInt, math.MinInt} {
				c := k.c
				change(&c, n)
				want := api.ErrRange
				if strings.Contains(k.use, " "+name+" ") {
					want = api.OK
				}
				if c.Kind == api.Place && (name == "How" && n != 1 || name == "O.Side" && n != 1 && n != -1) {
					want = api.ErrForm
				}
				checks(t, c, want)
			}
		}
	}
}

// checks holds Check's error, and Print's, against what is wanted.
func checks(t *testing.T, c api.Command, want api.Errno) {
	t.Helper()
	if e := Check(c); e != want {
		t.Errorf("Check of %+v: %d, want %d", c, e, want)
	}
	if s, e := Print(c); e != want || e != api.OK && s != "" {
		t.Errorf("Print of %+v: %q, %d, want %d", c, s, e, want)
	}
}

func TestCheckOfForms(t *testing.T) {
	for _, n := range []int{math.MinInt, math.MinInt + 1, -8, -2, -1, 0, 8, 9, 255, 256, math.MaxInt - 1, math.MaxInt} {
		checks(t, api.Command{Kind: n}, api.ErrForm)
		checks(t, api.Command{Kind: n, Account: 1, Market: 1, N: 1, How: 1, O: api.Order{ID: 1, Side: 1}}, api.ErrForm)
		checks(t, placeOf(api.Buy, 1, 1, n, false), api.ErrForm)
	}
	for _, n := range []int{5, 6, 7} {
		checks(t, placeOf(api.Sell, 1, 1, n, false), api.ErrForm)
	}
	for _, n := range []int{math.MinInt, math.MinInt + 1, -3, -2, 0, 2, 3, 7, math.MaxInt - 1, math.MaxInt} {
		checks(t, placeOf(n, 1, 1, api.Limit, false), api.ErrForm)
	}
	// How and Side are told ahead of what it has no use for.
	c := placeOf(api.Buy, 1, 1, 0, false)
	c.N, c.O.ID = 1, 1
	checks(t, c, api.ErrForm)
	c.How, c.O.Side = api.Post, 0
	checks(t, c, api.ErrForm)
	c.O.Side = api.Sell
	checks(t, c, api.ErrRange)
	c.N = 0
	checks(t, c, api.ErrRange)
	c.O.ID = 0
	checks(t, c, api.OK)
	// Of another kind than Place, a How or a Side that is none is of no use like any other.
	checks(t, api.Command{Kind: api.Sweep, How: 9, O: api.Order{Side: 5}}, api.ErrRange)
}

func wrongTexts() []string {
	return []string{
		"", " ", "  ", "\n", "\x00", "\xff", "x", "x 1 2", "0", "1 2 3", "Sweep", "SWEEP", "swee", "sweeps",
		"sweep ", " sweep", "sweep\n", "sweep 0", "sweep sweep", "sweep reduce", "rejected", "limit", "buy",
		"deposit", "deposit ", "deposit  ", "deposit 0", "deposit 0 ", "deposit 0 5 ", "deposit  0 5", "deposit 0  5",
		" deposit 0 5", "deposit 0 5 6", "deposit 0 5 reduce", "deposit 0 5\n", "deposit 0 5\r", "deposit\t0 5",
		"deposit 0\u00a05", "deposit 0 \u0665", "deposit 0,5", "deposit0 5", "deposit 0 x", "deposit x 5", "Deposit 0 5",
		"deposit 0 05", "deposit 00 5", "deposit 0 +5", "deposit -0 5", "deposit 0 -05", "deposit 0 --5", "deposit 0 -",
		"deposit 0 5.0", "deposit 0 5e1", "deposit 0 0x5", "deposit 0 1_000", "deposit 0 5\x00",
		"deposit 0 9223372036854775808", "deposit 0 -9223372036854775809", "deposit 0 18446744073709551621",
		"deposit 0 " + strings.Repeat("9", 400), "withdraw 0", "withdrawn 0 5", "cancel 3", "cancel 3 7 1",
		"index 1", "index 1 2 3", "fund", "fund 0 1 0", "place", "place 0 0", "place 0 0 buy", "place 0 0 buy 1",
		"place 0 0 buy 1 9", "place 0 0 buy 1 9 ", "place 0 0 buy 1 9 post ", "place 0 0 bid 1 9 post",
		"place 0 0  1 9 post", "place 0 0 1 9 post", "place 0 0 Buy 1 9 post", "place 0 0 1 1 9 post", "place 0 0 -1 1 9 post",
		"place 0 0 buy 1 9 4", "place 0 0 buy 1 9 fill", "place 0 0 buy 1 9 postreduce", "place 0 0 buy 1 9 reduce",
		"place 0 0 buy 1 9 reduce post", "place 0 0 buy 1 9  reduce", "place 0 0 buy 1 9 post reduced",
		"place 0 0 buy 1 9 post  reduce", "place 0 0 buy 1 9 post reduce ", "place 0 0 buy 1 9 post reduce reduce",
		"place 0 0 buy 1 9 post reduce x", "place 0 0 buy 1 9 post post", "place 0 0 buy 1 9 post true", "place 0 0 buy 01 9 post",
		"place 0 0 buy 1 +9 post", "place -0 0 buy 1 9 post", "place 0 -0 buy 1 9 post", "place 0 buy 1 9 post",
		"place 0 0 0 buy 1 9 post", "place 0 0 deposit 1 9 post", "place 0 0 buy 1 9 sell", "place 0 0 limit 1 9 buy",
		"sweep\nsweep", "deposit 0 5\nsweep",
	}
}

func refuses(t *testing.T, s string, want api.Errno) {
	t.Helper()
	if c, e := Parse(s); e != want || c != (api.Command{}) {
		t.Errorf("Parse of %.60q: %+v, %d, want %d", s, c, e, want)
	}
}

func TestParseOfWrongTexts(t *testing.T) {
	for _, s := range wrongTexts() {
		refuses(t, s, api.ErrText)
	}
}

func TestParseOfLongTexts(t *testing.T) {
	for _, s := range []string{" ", "0", "sweep ", "\n", "deposit 0 5 ", "place 0 0 buy 1 9 post reduce ", "\xff"} {
		long := strings.Repeat(s, 2*api.MaxText)
		refuses(t, long[:api.MaxText], api.ErrText)
		refuses(t, long[:api.MaxText+1], api.ErrMany)
		refuses(t, long, api.ErrMany)
	}
	// Bytes are counted, not what they say.
	refuses(t, strings.Repeat("\u20ac", api.MaxText/3), api.ErrText)
	refuses(t, strings.Repeat("\u20ac", api.MaxText/3+1), api.ErrMany)
	refuses(t, "sweep"+strings.Repeat(" ", api.MaxText), api.ErrMany)
}

var (
	pays   = regexp.MustCompile(`^(deposit|withdraw|cancel|index|fund) (0|-?[1-9][0-9]*) (0|-?[1-9][0-9]*)$`)
	places = regexp.MustCompile(`^place (0|-?[1-9][0-9]*) (0|-?[1-9][0-9]*) (buy|sell) (0|-?[1-9][0-9]*) (0|-?[1-9][0-9]*) (limit|now|whole|post)( reduce)?$`)
)

// written: is s a text, by a rule that the program doesn't know of?
func written(s string) bool {
	if !pays.MatchString(s) && !places.MatchString(s) {
		return s == "sweep"
	}
	for _, w := range strings.Fields(s) {
		if _, e := strconv.ParseInt(w, 10, 64); e != nil && strings.Trim(w, "-0123456789") == "" {
			return false
		}
	}
	return true
}

func oneOf[T any](r *rand.Rand, l ...T) T { return l[r.Intn(len(l))] }

func anyNumber(r *rand.Rand) int {
	return oneOf(r, 0, 1, -1, 9, 10, -10, 100, math.MaxInt, math.MinInt, r.Intn(100), r.Intn(1000000)-500000, int(r.Uint64()))
}

// anyCommand answers one that more often than not is one.
func anyCommand(r *rand.Rand) api.Command {
	c := api.Command{Kind: r.Intn(7) + 1}
	switch c.Kind {
	case api.Place:
		c.Account, c.Market, c.How, c.Reduce = anyNumber(r), anyNumber(r), r.Intn(4)+1, r.Intn(2) == 0
		c.O = api.Order{Side: oneOf(r, api.Buy, api.Sell), Price: anyNumber(r), Qty: anyNumber(r)}
	case api.Index, api.Fund:
		c.Market, c.N = anyNumber(r), anyNumber(r)
	case api.Deposit, api.Withdraw, api.Cancel:
		c.Account, c.N = anyNumber(r), anyNumber(r)
	}
	if r.Intn(4) == 0 {
		spoil := []*int{&c.Kind, &c.Account, &c.Market, &c.N, &c.O.ID, &c.O.Account, &c.O.Side, &c.O.Price, &c.O.Qty, &c.How}
		*oneOf(r, spoil...) = anyNumber(r)
	}
	return c
}

func TestCommandsByChance(t *testing.T) {
	r := rand.New(rand.NewSource(81))
	came, seen := map[api.Errno]int{}, map[string]api.Command{}
	for range 50000 {
		c := anyCommand(r)
		s, e := Print(c)
		came[e]++
		if e != Check(c) || e != api.OK && s != "" || e == api.OK && !written(s) {
			t.Fatalf("Print of %+v: %q, %d, but Check says %d", c, s, e, Check(c))
		}
		if e != api.OK {
			continue
		}
		if back, e := Parse(s); back != c || e != api.OK {
			t.Fatalf("Parse of %q: %+v, %d, want %+v", s, back, e, c)
		}
		if other, there := seen[s]; there && other != c {
			t.Fatalf("%+v and %+v are both %q", c, other, s)
		}
		seen[s] = c
	}
	if came[api.OK] < 1000 || came[api.ErrForm] < 1000 || came[api.ErrRange] < 1000 {
		t.Errorf("errors came unevenly: %v", came)
	}
}

// anyText answers a text, or one that is nearly one.
func anyText(r *rand.Rand) string {
	s, _ := Print(anyCommand(r))
	for range r.Intn(3) {
		at := r.Intn(len(s) + 1)
		switch r.Intn(4) {
		case 0:
			s = s[:at] + oneOf(r, " ", "0", "-", "+", "9", "x", "\n", " reduce", "buy", "_") + s[at:]
		case 1:
			s = s[:at] + s[min(len(s), at+1):]
		case 2:
			l := strings.Split(s, " ")
			i, j := r.Intn(len(l)), r.Intn(len(l))
			l[i], l[j] = l[j], l[i]
			s = strings.Join(l, " ")
		case 3:
			l := strings.Split(s, " ")
			i := r.Intn(len(l))
			l[i] = oneOf(r, "sweep", "index", "place", "sell", "now", "reduce", "", "7", "-0", "00", "9223372036854775808")
			s = strings.Join(l, " ")
		}
	}
	return s
}

func TestTextsByChance(t *testing.T) {
	r := rand.New(rand.NewSource(82))
	came := map[api.Errno]int{}
	for range 100000 {
		s := anyText(r)
		c, e := Parse(s)
		came[e]++
		if (e == api.OK) != written(s) {
			t.Fatalf("Parse of %q: %+v, %d, but it is written so: %v", s, c, e, written(s))
		}
		if e != api.OK {
			refuses(t, s, api.ErrText)
			continue
		}
		if back, e := Print(c); back != s || e != api.OK {
			t.Fatalf("Print of %+v: %q, %d, want %q", c, back, e, s)
		}
	}
	if came[api.OK] < 1000 || came[api.ErrText] < 1000 {
		t.Errorf("errors came unevenly: %v", came)
	}
}
