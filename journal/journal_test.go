package journal

import (
	"bytes"
	"math"
	"math/rand"
	"reflect"
	"slices"
	"strings"
	"testing"

	"tollbooth/api"
	"tollbooth/text"
	"tollbooth/venue"
)

// disk answers one with spare room behind what it holds, so that whoever writes there is seen by unchanged.
func disk(safe, wait string) api.Disk {
	room := func(s string) []byte {
		b := []byte(s + strings.Repeat("~", 40))
		return b[:len(s)]
	}
	return api.Disk{Safe: room(safe), Wait: room(wait)}
}

// unchanged: is what disk made still as it was, spare room and all?
func unchanged(t *testing.T, d api.Disk, safe, wait string) {
	t.Helper()
	for _, k := range []struct {
		got  []byte
		want string
	}{{d.Safe, safe}, {d.Wait, wait}} {
		if whole := string(k.got[:len(k.got)+40]); whole != k.want+strings.Repeat("~", 40) {
			t.Errorf("what was handed in is %q now, was %q", whole, k.want)
		}
	}
}

// holds: does d hold this?
func holds(t *testing.T, what string, d api.Disk, safe, wait string) {
	t.Helper()
	if string(d.Safe) != safe || string(d.Wait) != wait {
		t.Errorf("%s: %.200q, %.200q, want %.200q, %.200q", what, d.Safe, d.Wait, safe, wait)
	}
}

// nothing: with an error, is all else zero?
func nothing(t *testing.T, what string, d api.Disk, e, want api.Errno) {
	t.Helper()
	if e != want || d.Safe != nil || d.Wait != nil {
		t.Errorf("%s: %d, %q, %q, want %d alone", what, e, d.Safe, d.Wait, want)
	}
}

// sweeps answers so many lines.
func sweeps(n int) string { return strings.Repeat("sweep\n", n) }

// long answers a line of n bytes that is no command's.
func long(n int) string { return strings.Repeat("x", n-1) + "\n" }

type wrongDisk struct {
	name, safe, wait string
	want             api.Errno
}

func wrongDisks() []wrongDisk {
	return []wrongDisk{
		{"no end", "sweep", "", api.ErrTorn},
		{"no end of the second", "sweep\nsweep", "", api.ErrTorn},
		{"no end, and no command", "x", "", api.ErrTorn},
		{"a blank, no end", " ", "", api.ErrTorn},
		{"the end waits", "sweep", "\n", api.ErrTorn},
		{"an empty line", "\n", "", api.ErrText},
		{"an empty line behind one", "sweep\n\n", "", api.ErrText},
		{"an empty line ahead of one", "\nsweep\n", "", api.ErrText},
		{"no command", "x\n", "", api.ErrText},
		{"another end", "sweep\r\n", "", api.ErrText},
		{"a zero", "sweep\x00\n", "", api.ErrText},
		{"a blank ahead of the end", "sweep \n", "", api.ErrText},
		{"a number that isn't written so", "deposit 0 05\n", "", api.ErrText},
		{"no command, then no end", "x\nsweep", "", api.ErrText},
		{"no command, then no command", "sweep\nx\ny\n", "", api.ErrText},
		{"one too many", sweeps(api.MaxLines + 1), "", api.ErrMany},
		{"many too many", sweeps(3000), "", api.ErrMany},
		{"one too many, then no end", sweeps(api.MaxLines+1) + "s", "", api.ErrMany},
		{"one too many, then no command", sweeps(api.MaxLines+1) + "x\n", "", api.ErrMany},
		{"one too many that has no end", sweeps(api.MaxLines) + "sweep", "", api.ErrTorn},
		{"one too many that is no command", sweeps(api.MaxLines) + "x\n", "", api.ErrText},
		{"too many bytes wait", "", strings.Repeat("x", api.MaxText+1), api.ErrMany},
		{"too many bytes are safe", long(api.MaxText + 1), "", api.ErrMany},
		{"too many bytes, no end", strings.Repeat("x", api.MaxText+1), "", api.ErrMany},
		{"too many bytes together", sweeps(1), strings.Repeat("x", api.MaxText-5), api.ErrMany},
		{"too many bytes, nothing else right", "x", strings.Repeat("x", api.MaxText), api.ErrMany},
		{"just as many bytes", long(api.MaxText), "", api.ErrText},
		{"just as many bytes together, no end", "x", strings.Repeat("x", api.MaxText-1), api.ErrTorn},
	}
}

func TestCheck(t *testing.T) {
	for _, k := range []struct{ safe, wait string }{
		{"", ""},
		{"sweep\n", ""},
		{"", "x"},
		{"", "\n\n"},
		{"sweep\n", "\xff\x00"},
		{"deposit 0 -5\nplace 3 1 sell 2 7 now reduce\n", "sweep\nx\nsweep"},
		{sweeps(api.MaxLines), ""},
		{sweeps(api.MaxLines), sweeps(9)},
		{"", strings.Repeat("x", api.MaxText)},
		{sweeps(1), strings.Repeat("x", api.MaxText-6)},
	} {
		d := disk(k.safe, k.wait)
		if e := Check(d); e != api.OK {
			t.Errorf("Check of %.60q, %.60q: %d", k.safe, k.wait, e)
		}
		unchanged(t, d, k.safe, k.wait)
	}
	if e := Check(api.Disk{}); e != api.OK {
		t.Errorf("Check of nothing: %d", e)
	}
	for _, k := range wrongDisks() {
		if e := Check(disk(k.safe, k.wait)); e != k.want {
			t.Errorf("%s: %d, want %d", k.name, e, k.want)
		}
	}
}

// TestWrongDisks: whatever else is wrong, too, the others say first what Check says.
func TestWrongDisks(t *testing.T) {
	for _, k := range wrongDisks() {
		d := disk(k.safe, k.wait)
		for _, c := range []api.Command{{Kind: api.Sweep}, {}, {Kind: api.Sweep, N: 1}} {
			got, e := Put(d, c)
			nothing(t, "Put, "+k.name, got, e, k.want)
		}
		got, e := Sync(d)
		nothing(t, "Sync, "+k.name, got, e, k.want)
		for _, n := range []int{0, -1, math.MaxInt} {
			got, e = Crash(d, n)
			nothing(t, "Crash, "+k.name, got, e, k.want)
		}
		got, l, e := Recover(d)
		nothing(t, "Recover, "+k.name, got, e, k.want)
		if l != nil {
			t.Errorf("Recover, %s: commands %v", k.name, l)
		}
		for _, v := range []api.Venue{aVenue(t), {}} {
			w, events, e := Replay(v, d)
			if e != k.want || events != nil || !venue.Same(w, api.Venue{}) {
				t.Errorf("Replay, %s: %d, %v, %v, want %d alone", k.name, e, w, events, k.want)
			}
		}
		unchanged(t, d, k.safe, k.wait)
	}
}

func aVenue(t *testing.T) api.Venue {
	t.Helper()
	v, e := venue.New([]int{100, 50})
	if e != api.OK {
		t.Fatal(e)
	}
	return v
}

func TestPut(t *testing.T) {
	for _, k := range []struct {
		safe, wait string
		c          api.Command
		after      string
	}{
		{"", "", api.Command{Kind: api.Sweep}, "sweep\n"},
		{"", "sweep\n", api.Command{Kind: api.Deposit, Account: 1, N: 5}, "sweep\ndeposit 1 5\n"},
		{"sweep\n", "", api.Command{Kind: api.Fund, N: -7}, "fund 0 -7\n"},
		// What waits may be anything, so something may come behind anything.
		{"sweep\n", "dep", api.Command{Kind: api.Sweep}, "depsweep\n"},
		{sweeps(api.MaxLines), sweeps(2), api.Command{Kind: api.Sweep}, sweeps(3)},
		{"sweep\n", long(api.MaxText - 12), api.Command{Kind: api.Sweep}, long(api.MaxText-12) + "sweep\n"},
	} {
		d := disk(k.safe, k.wait)
		got, e := Put(d, k.c)
		if e != api.OK {
			t.Errorf("Put behind %.60q: %d", k.wait, e)
		}
		holds(t, "Put", got, k.safe, k.after)
		unchanged(t, d, k.safe, k.wait)
	}
}

func TestPutOfWhatCannotBe(t *testing.T) {
	tight := func(n int) api.Disk { return disk("sweep\n", long(api.MaxText-6-n)) }
	for _, k := range []struct {
		name string
		d    api.Disk
		c    api.Command
		want api.Errno
	}{
		{"no kind", disk("", ""), api.Command{}, api.ErrForm},
		{"no How", disk("", ""), api.Command{Kind: api.Place, O: api.Order{Side: api.Buy}, N: 1}, api.ErrForm},
		{"of no use", disk("", ""), api.Command{Kind: api.Sweep, N: 1}, api.ErrRange},
		{"a byte too many", tight(5), api.Command{Kind: api.Sweep}, api.ErrFull},
		{"full", tight(0), api.Command{Kind: api.Sweep}, api.ErrFull},
		{"full of what waits", disk("", strings.Repeat("x", api.MaxText)), api.Command{Kind: api.Sweep}, api.ErrFull},
		{"a longer one", tight(11), api.Command{Kind: api.Deposit, N: 5}, api.ErrFull},
		{"full, no kind", tight(0), api.Command{Kind: 8}, api.ErrForm},
		{"full, of no use", tight(0), api.Command{Kind: api.Sweep, Reduce: true}, api.ErrRange},
	} {
		got, e := Put(k.d, k.c)
		nothing(t, k.name, got, e, k.want)
	}
	if _, e := Put(tight(12), api.Command{Kind: api.Deposit, N: 5}); e != api.OK {
		t.Errorf("just as much as there is room for: %d", e)
	}
}

func TestSync(t *testing.T) {
	for _, k := range []struct {
		safe, wait string
		want       api.Errno
	}{
		{"", "", api.OK},
		{"", "sweep\n", api.OK},
		{"sweep\n", "", api.OK},
		{"sweep\n", "deposit 0 5\nsweep\n", api.OK},
		{sweeps(1), sweeps(api.MaxLines - 1), api.OK},
		{sweeps(api.MaxLines), "", api.OK},
		{"", "sweep", api.ErrTorn},
		{"sweep\n", "sweep\nswe", api.ErrTorn},
		{"", "x\n", api.ErrText},
		{"sweep\n", "\n", api.ErrText},
		{"sweep\n", "x\nsweep", api.ErrText},
		{sweeps(1), sweeps(api.MaxLines), api.ErrMany},
		{sweeps(api.MaxLines), sweeps(1), api.ErrMany},
		{sweeps(api.MaxLines), "x\n", api.ErrText},
		{sweeps(api.MaxLines), "sweep", api.ErrTorn},
		{"", strings.Repeat("x", api.MaxText), api.ErrTorn},
	} {
		d := disk(k.safe, k.wait)
		got, e := Sync(d)
		if k.want != api.OK {
			nothing(t, "Sync of "+k.wait[:min(9, len(k.wait))], got, e, k.want)
		} else {
			if e != api.OK {
				t.Errorf("Sync of %.60q: %d", k.wait, e)
			}
			holds(t, "Sync", got, k.safe+k.wait, "")
		}
		unchanged(t, d, k.safe, k.wait)
	}
}

func TestCrash(t *testing.T) {
	const safe, wait = "sweep\n", "deposit 0 5\nx\xff"
	d := disk(safe, wait)
	for n := range len(wait) + 1 {
		got, e := Crash(d, n)
		if e != api.OK {
			t.Errorf("Crash at %d: %d", n, e)
		}
		holds(t, "Crash", got, safe, wait[:n])
	}
	// There is spare room behind what waits: that is none of it.
	for _, n := range []int{-1, len(wait) + 1, len(wait) + 40, math.MaxInt, math.MinInt} {
		got, e := Crash(d, n)
		nothing(t, "Crash", got, e, api.ErrRange)
	}
	got, e := Crash(api.Disk{}, 0)
	if e != api.OK {
		t.Errorf("Crash of nothing: %d", e)
	}
	holds(t, "Crash of nothing", got, "", "")
	got, e = Crash(api.Disk{}, 1)
	nothing(t, "Crash of nothing", got, e, api.ErrRange)
	unchanged(t, d, safe, wait)
}

func TestRecover(t *testing.T) {
	for _, k := range []struct{ safe, wait, after string }{
		{"", "", ""},
		{"sweep\n", "", "sweep\n"},
		{"", "sweep\n", "sweep\n"},
		{"", "sweep", ""},
		{"", "\n", ""},
		{"", "x\nsweep\n", ""},
		{"", "sweep\nx\nsweep\n", "sweep\n"},
		{"", "sweep\n\nsweep\n", "sweep\n"},
		{"", "sweep\nsweep\r\nsweep\n", "sweep\n"},
		{"index 0 9\n", "sweep\nfund 0 -3\nswe", "index 0 9\nsweep\nfund 0 -3\n"},
		{"index 0 9\n", "sweep\nfund 0 -03\nsweep\n", "index 0 9\nsweep\n"},
		{"index 0 9\n", "\xff\x00", "index 0 9\n"},
		{"deposit 0 5\n", "0\ndeposit 0 6\n", "deposit 0 5\n"},
		{sweeps(api.MaxLines), "index 0 9\n", sweeps(api.MaxLines)},
		{sweeps(api.MaxLines - 1), "index 0 9\nindex 0 8\n", sweeps(api.MaxLines-1) + "index 0 9\n"},
		{"", sweeps(api.MaxLines + 1), sweeps(api.MaxLines)},
		{"", sweeps(3000), sweeps(api.MaxLines)},
		{"", sweeps(1) + long(api.MaxText-6), sweeps(1)},
	} {
		d := disk(k.safe, k.wait)
		got, l, e := Recover(d)
		if e != api.OK {
			t.Errorf("Recover of %.60q, %.60q: %d", k.safe, k.wait, e)
		}
		holds(t, "Recover", got, k.after, "")
		if !slices.Equal(l, commandsOf(t, k.after)) {
			t.Errorf("Recover of %.60q, %.60q: %v", k.safe, k.wait, l)
		}
		unchanged(t, d, k.safe, k.wait)
	}
}

// commandsOf answers those of lines that are known to be some.
func commandsOf(t *testing.T, lines string) []api.Command {
	t.Helper()
	var l []api.Command
	for s := range strings.Lines(lines) {
		c, e := text.Parse(strings.TrimSuffix(s, "\n"))
		if e != api.OK {
			t.Fatalf("%q is no line", s)
		}
		l = append(l, c)
	}
	return l
}

func TestReplay(t *testing.T) {
	const safe = "deposit 0 120\ndeposit 1 500\nplace 0 0 buy 10 100 limit\n"
	const wait = "place 1 0 sell 12 100 now\nwithdraw 0 21\nindex 0 90\nsweep\nwith"
	v, d := aVenue(t), disk(safe, wait)
	w, events, e := Replay(v, d)
	if e != api.OK || len(events) != 7 {
		t.Fatalf("Replay: %d, %v", e, events)
	}
	want, came, _ := venue.Run(aVenue(t), commandsOf(t, safe+strings.TrimSuffix(wait, "with")))
	if !venue.Same(w, want) || !reflect.DeepEqual(events, came) {
		t.Errorf("Replay: %v, %v, want %v, %v", w, events, want, came)
	}
	// A command that can't be done is a line like any other.
	if rejected := []api.Event{{Kind: api.Rejected, E: api.ErrMargin}}; !slices.Equal(events[4], rejected) {
		t.Errorf("what may not go out: %v", events[4])
	}
	if w.In != 620 || w.Out != 0 || w.Markets[0].Index != 90 || w.Accounts[0].Pos[0] != 0 {
		t.Errorf("Replay: %v", w)
	}
	if !venue.Same(v, aVenue(t)) {
		t.Errorf("the venue that was handed in is %v now", v)
	}
	unchanged(t, d, safe, wait)
}

func TestReplayOfNothing(t *testing.T) {
	v := aVenue(t)
	w, events, e := Replay(v, api.Disk{})
	if e != api.OK || len(events) != 0 || !venue.Same(v, w) {
		t.Errorf("Replay of nothing: %d, %v, %v", e, w, events)
	}
	w.Markets[0].Index = 1
	if v.Markets[0].Index != 100 {
		t.Error("the venue that was handed in is answered")
	}
}

func TestReplayOfWrongVenues(t *testing.T) {
	unfit := aVenue(t)
	unfit.In = 1
	for want, v := range map[api.Errno]api.Venue{api.ErrMany: {}, api.ErrForm: unfit} {
		for _, s := range []string{"", "sweep\n", sweeps(api.MaxLines)} {
			w, events, e := Replay(v, disk(s, "sweep\n"))
			if e != want || events != nil || !venue.Same(w, api.Venue{}) {
				t.Errorf("Replay: %d, %v, %v, want %d alone", e, w, events, want)
			}
		}
	}
}

// TestMemory: what is answered can be written to, spare room and all, and nothing else hears of it.
func TestMemory(t *testing.T) {
	const lines = "sweep\nindex 0 9\n"
	for _, k := range []struct{ safe, wait string }{{lines, lines}, {"", lines}, {lines, ""}, {"", ""}} {
		d := disk(k.safe, k.wait)
		for name, call := range map[string]func() (api.Disk, api.Errno){
			"Put":     func() (api.Disk, api.Errno) { return Put(d, api.Command{Kind: api.Sweep}) },
			"Sync":    func() (api.Disk, api.Errno) { return Sync(d) },
			"Crash":   func() (api.Disk, api.Errno) { return Crash(d, len(d.Wait)) },
			"Cut":     func() (api.Disk, api.Errno) { return Crash(d, 0) },
			"Recover": func() (api.Disk, api.Errno) { got, _, e := Recover(d); return got, e },
		} {
			got, e := call()
			if e != api.OK {
				t.Fatalf("%s: %d", name, e)
			}
			safe, wait := string(got.Safe), string(got.Wait)
			overwrite(got.Safe, '1')
			holds(t, name+", Safe overwritten", got, strings.Repeat("1", len(safe)), wait)
			overwrite(got.Wait, '2')
			holds(t, name+", both overwritten", got, strings.Repeat("1", len(safe)), strings.Repeat("2", len(wait)))
			unchanged(t, d, k.safe, k.wait)
		}
	}
}

func overwrite(b []byte, with byte) {
	whole := b[:cap(b)]
	for i := range whole {
		whole[i] = with
	}
}

// TestOneMemoryTwice: a disk whose parts are the same bytes is one like any other.
func TestOneMemoryTwice(t *testing.T) {
	b := []byte("sweep\nindex 0 9\n")
	d := api.Disk{Safe: b[:6], Wait: b}
	got, e := Sync(d)
	if e != api.OK {
		t.Errorf("Sync: %d", e)
	}
	holds(t, "Sync", got, "sweep\nsweep\nindex 0 9\n", "")
	got, e = Put(d, api.Command{Kind: api.Sweep})
	if e != api.OK || string(b) != "sweep\nindex 0 9\n" {
		t.Errorf("Put: %d, %q", e, b)
	}
	holds(t, "Put", got, "sweep\n", "sweep\nindex 0 9\nsweep\n")
}

func oneOf[T any](r *rand.Rand, l ...T) T { return l[r.Intn(len(l))] }

func anyCommand(r *rand.Rand) api.Command {
	n := oneOf(r, 1, 2, 50, 100, r.Intn(1000), -r.Intn(20))
	o := api.Order{Side: oneOf(r, api.Buy, api.Sell), Price: r.Intn(20) + 90, Qty: r.Intn(9) + 1}
	how, market, who := r.Intn(4)+1, r.Intn(2), r.Intn(3)
	return oneOf(r,
		api.Command{Kind: api.Sweep},
		api.Command{Kind: api.Index, Market: market, N: n},
		api.Command{Kind: api.Fund, Market: market, N: n},
		api.Command{Kind: api.Deposit, Account: who, N: n},
		api.Command{Kind: api.Withdraw, Account: who, N: n},
		api.Command{Kind: api.Cancel, Account: who, N: n},
		api.Command{Kind: api.Place, Account: who, Market: market, O: o, How: how, Reduce: r.Intn(3) == 0},
	)
}

// session: a journal, and what a test knows of it.
type session struct {
	t             *testing.T
	r             *rand.Rand
	d             api.Disk
	synced, waits []api.Command
}

func (s *session) put() {
	c := anyCommand(s.r)
	d, e := Put(s.d, c)
	if e != api.OK {
		s.t.Fatalf("Put of %v: %d", c, e)
	}
	s.d, s.waits = d, append(s.waits, c)
}

func (s *session) sync() {
	d, e := Sync(s.d)
	if len(s.synced)+len(s.waits) > api.MaxLines {
		nothing(s.t, "Sync of too many", d, e, api.ErrMany)
		return
	}
	if e != api.OK {
		s.t.Fatalf("Sync: %d", e)
	}
	s.d, s.synced, s.waits = d, append(s.synced, s.waits...), nil
}

// crash loses some of what waits, and holds what comes back against what must: what was synced, and the lines that
// were kept whole.
func (s *session) crash() {
	n := s.r.Intn(len(s.d.Wait) + 1)
	want := slices.Concat(s.synced, s.waits[:bytes.Count(s.d.Wait[:n], []byte("\n"))])
	want = want[:min(len(want), api.MaxLines)]
	d, e := Crash(s.d, n)
	if e != api.OK {
		s.t.Fatalf("Crash: %d", e)
	}
	after, l, e := Recover(d)
	if e != api.OK || len(after.Wait) != 0 || !slices.Equal(l, want) || !bytes.HasPrefix(after.Safe, s.d.Safe) {
		s.t.Fatalf("Recover of %q, %q: %d, %q, %v, want %v", d.Safe, d.Wait, e, after.Safe, l, want)
	}
	s.replay(d, want)
	s.d, s.synced, s.waits = after, want, nil
}

func (s *session) replay(d api.Disk, l []api.Command) {
	want, came, _ := venue.Run(aVenue(s.t), l)
	v, events, e := Replay(aVenue(s.t), d)
	if e != api.OK || !venue.Same(v, want) || !reflect.DeepEqual(events, came) {
		s.t.Fatalf("Replay of %q, %q: %d, %v, %v, want %v, %v", d.Safe, d.Wait, e, v, events, want, came)
	}
}

func TestSessionsByChance(t *testing.T) {
	r := rand.New(rand.NewSource(91))
	great := 0
	for range 150 {
		s := session{t: t, r: r}
		for range r.Intn(140) {
			switch n := r.Intn(40); {
			case n < 30:
				s.put()
			case n < 32:
				s.sync()
			case n < 33:
				s.crash()
			}
			if e := Check(s.d); e != api.OK {
				t.Fatalf("Check: %d", e)
			}
		}
		s.crash()
		if len(s.synced) == api.MaxLines {
			great++
		}
	}
	if great < 10 || great > 140 {
		t.Errorf("%d of the sessions were as long as can be", great)
	}
}

// anyBytes answers lines, more often than not, or nearly so.
func anyBytes(r *rand.Rand) string {
	var s string
	for range oneOf(r, 0, 1, 2, 3, 5, 30, 61) {
		line, _ := text.Print(anyCommand(r))
		s += line + "\n"
	}
	for range r.Intn(3) {
		at := r.Intn(len(s) + 1)
		switch r.Intn(6) {
		case 0:
			s = s[:at] + oneOf(r, "\n", " ", "x", "\x00", "\r", "sweep\n") + s[at:]
		case 1:
			s = s[:at]
		case 2:
			s = s[at:]
		}
	}
	return s
}

// wrongWith: what is wrong with these lines, by a rule of its own; how many there are ahead of that.
func wrongWith(s string) (api.Errno, int) {
	l := strings.SplitAfter(s, "\n")
	if l[len(l)-1] == "" {
		l = l[:len(l)-1]
	}
	for i, line := range l {
		body, whole := strings.CutSuffix(line, "\n")
		if !whole {
			return api.ErrTorn, i
		}
		if _, e := text.Parse(body); e != api.OK {
			return e, i
		}
		if i >= api.MaxLines {
			return api.ErrMany, i
		}
	}
	return api.OK, len(l)
}

func TestDisksByChance(t *testing.T) {
	r := rand.New(rand.NewSource(92))
	came := map[api.Errno]int{}
	for range 8000 {
		safe, wait := anyBytes(r), anyBytes(r)
		d := disk(safe, wait)
		wrong, _ := wrongWith(safe)
		came[wrong]++
		if e := Check(d); e != wrong {
			t.Fatalf("Check of %q: %d, want %d", safe, e, wrong)
		}
		after, l, e := Recover(d)
		synced, f := Sync(d)
		unchanged(t, d, safe, wait)
		if wrong != api.OK {
			nothing(t, "Recover", after, e, wrong)
			nothing(t, "Sync", synced, f, wrong)
			continue
		}
		wrong, n := wrongWith(safe + wait)
		lines := strings.Join(strings.SplitAfter(safe+wait, "\n")[:n], "")
		holds(t, "Recover", after, lines, "")
		if e != api.OK || !slices.Equal(l, commandsOf(t, lines)) {
			t.Fatalf("Recover of %q, %q: %d, %v", safe, wait, e, l)
		}
		if wrong != api.OK {
			nothing(t, "Sync", synced, f, wrong)
		} else {
			holds(t, "Sync", synced, safe+wait, "")
		}
	}
	for _, e := range []api.Errno{api.OK, api.ErrTorn, api.ErrText, api.ErrMany} {
		if came[e] < 200 {
			t.Errorf("errors came unevenly: %v", came)
		}
	}
}
