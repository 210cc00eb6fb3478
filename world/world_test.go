package world

import (
	"fmt"
	"math"
	"slices"
	"strings"
	"testing"

	"tidewheel/api"
	"tidewheel/cron"
	"tidewheel/loop"
)

const (
	hour  = 3600
	clock = 1 << 40      // MaxClock as the document writes it
	far   = 100000000000 // MaxTime likewise
)

func lag(target, active int) api.Trigger {
	return api.Trigger{Kind: api.KLag, Target: target, Active: active}
}

func depth(target, active int) api.Trigger {
	return api.Trigger{Kind: api.KDepth, Target: target, Active: active}
}

// office is on from 8:00 to 18:00.
func office(t testing.TB, pods int) api.Trigger {
	t.Helper()
	start, e := cron.Parse("0 8 * * *")
	end, f := cron.Parse("0 18 * * *")
	if e != api.OK || f != api.OK {
		t.Fatal(e, f)
	}
	return api.Trigger{Kind: api.KSpan, Target: pods, Span: api.Span{Start: start, End: end}}
}

// simple is a plan that looks at each tick, and has no paces.
func simple(triggers ...api.Trigger) api.Plan {
	return api.Plan{Name: "p", Max: 9, Poll: 1, Cool: 6, Triggers: triggers}
}

// with is a plan with some of its numbers changed.
func with(p api.Plan, change func(p *api.Plan)) api.Plan {
	change(&p)
	return p
}

func newWorld(t testing.TB, p api.Plan, parts, most, sec int) *World {
	t.Helper()
	w, e := New(p, parts, most, sec)
	if w == nil || e != api.OK {
		t.Fatalf("New(%v, %d, %d, %d) = %v, %d", p, parts, most, sec, w, e)
	}
	return w
}

func tick(n int) api.Happens           { return api.Happens{Kind: api.HTick, N: n} }
func come(part, n int) api.Happens     { return api.Happens{Kind: api.HMake, A: part, N: n} }
func take(part, to int) api.Happens    { return api.Happens{Kind: api.HTake, A: part, N: to} }
func put(n int) api.Happens            { return api.Happens{Kind: api.HPut, N: n} }
func lease(ticks int) api.Happens      { return api.Happens{Kind: api.HLease, N: ticks} }
func ack(id int) api.Happens           { return api.Happens{Kind: api.HAck, N: id} }
func fails(trigger, n int) api.Happens { return api.Happens{Kind: api.HFail, A: trigger, N: n} }
func start(pod int) api.Happens        { return api.Happens{Kind: api.HStart, N: pod} }
func ready(pod int) api.Happens        { return api.Happens{Kind: api.HReady, N: pod} }
func crash(pod int) api.Happens        { return api.Happens{Kind: api.HCrash, N: pod} }
func ask(source, ticks int) api.Happens {
	return api.Happens{Kind: api.HAsk, A: source, N: ticks}
}
func done(request int) api.Happens { return api.Happens{Kind: api.HDone, N: request} }
func pause(n int) api.Happens      { return api.Happens{Kind: api.HPause, N: n} }

func happen(t testing.TB, w *World, list ...api.Happens) {
	t.Helper()
	for i, x := range list {
		if e := w.Do(x); e != api.OK {
			t.Fatalf("happening %d: Do(%+v) = %d, not OK", i, x, e)
		}
	}
}

func refuse(t testing.TB, w *World, want api.Errno, list ...api.Happens) {
	t.Helper()
	for i, x := range list {
		before := tell(w)
		if e := w.Do(x); e != want {
			t.Fatalf("happening %d: Do(%+v) = %d, not %d", i, x, e, want)
		}
		if after := tell(w); after != before {
			t.Fatalf("happening %d: Do(%+v) was refused, but made of\n%s\n%s", i, x, before, after)
		}
	}
}

// tell is all that a world tells.
func tell(w *World) string {
	return fmt.Sprint(w.Now(), w.Target(), w.Pods(), w.Requests(), w.Lags(), w.Messages())
}

func same[T any](t testing.TB, what string, got, want T) {
	t.Helper()
	if fmt.Sprint(got) != fmt.Sprint(want) {
		t.Fatalf("%s: %v, not %v", what, got, want)
	}
}

// wantPods holds the pods against ID:STATE:LOAD, with blanks between.
func wantPods(t testing.TB, w *World, want string) {
	t.Helper()
	var words []string
	for _, p := range w.Pods() {
		words = append(words, fmt.Sprintf("%d:%d:%d", p.Id, p.State, p.Load))
	}
	same(t, "Pods", strings.Join(words, " "), want)
}

// wantFates holds the requests against FATE or FATE@POD, with blanks
// between.
func wantFates(t testing.TB, w *World, want string) {
	t.Helper()
	var words []string
	for _, r := range w.Requests() {
		word := fmt.Sprint(r.Fate)
		if r.Pod != 0 {
			word += fmt.Sprintf("@%d", r.Pod)
		}
		words = append(words, word)
	}
	same(t, "Requests", strings.Join(words, " "), want)
}

// wantTargets lets a tick go by ahead of each.
func wantTargets(t testing.TB, w *World, want ...int) {
	t.Helper()
	for i, n := range want {
		happen(t, w, tick(1))
		if w.Target() != n {
			t.Fatalf("tick %d, at %d: Target() = %d, not %d", i, w.Now(), w.Target(), n)
		}
	}
}

// open is a world with so many pods that are ready; its pause is theirs.
func open(t testing.TB, p api.Plan, most, pods int) *World {
	t.Helper()
	w := newWorld(t, p, 2, most, 0)
	happen(t, w, pause(pods), tick(1))
	for id := 1; id <= pods; id++ {
		happen(t, w, start(id), ready(id))
	}
	return w
}

func TestP23NewWrongPlan(t *testing.T) {
	for _, x := range []struct {
		p    api.Plan
		want api.Errno
	}{
		{api.Plan{}, api.ErrSyntax},
		{with(simple(), func(p *api.Plan) { p.Name = "P" }), api.ErrSyntax},
		{simple(make([]api.Trigger, 6)...), api.ErrLarge},
		{with(simple(), func(p *api.Plan) { p.Max = 51 }), api.ErrArg},
		{with(simple(), func(p *api.Plan) { p.Poll = 0 }), api.ErrArg},
		{with(simple(), func(p *api.Plan) { p.Up.Window = -1 }), api.ErrArg},
		{simple(lag(0, 0)), api.ErrArg},
		{simple(api.Trigger{Kind: 4, Target: 1}), api.ErrArg},
	} {
		// It is told ahead of what else is wrong.
		for _, parts := range []int{1, 0, 21} {
			for _, sec := range []int{0, 10000000001} {
				if w, e := New(x.p, parts, 1, sec); w != nil || e != x.want {
					t.Errorf("New(%v, %d, 1, %d) = %v, %d, not nil, %d", x.p, parts, sec, w, e, x.want)
				}
			}
		}
		if _, e := loop.New(x.p); e != x.want {
			t.Errorf("loop.New(%v): %d, not %d", x.p, e, x.want)
		}
	}
}

func TestP23NewWrongPartsAndSec(t *testing.T) {
	for _, parts := range []int{math.MinInt, -1, 0, 21, 22, math.MaxInt} {
		if w, e := New(simple(), parts, 1, 0); w != nil || e != api.ErrArg {
			t.Errorf("New of %d parts = %v, %d", parts, w, e)
		}
	}
	for _, sec := range []int{math.MinInt, -far, -10000000001, 10000000001, far, math.MaxInt} {
		if w, e := New(simple(), 1, 1, sec); w != nil || e != api.ErrArg {
			t.Errorf("New of sec %d = %v, %d", sec, w, e)
		}
	}
}

// In a new world nothing happened, and any most will do.
func TestP23New(t *testing.T) {
	for _, p := range []api.Plan{simple(), simple(lag(1, 0), depth(2, 3), office(t, 4), lag(5, 6), depth(7, 8)), with(simple(), func(p *api.Plan) { p.Min = 5 })} {
		for _, parts := range []int{1, 2, 19, 20} {
			for _, most := range []int{math.MinInt, -1, 0, 1, 100, 101, math.MaxInt} {
				for _, sec := range []int{-10000000000, -1, 0, 1, 10000000000} {
					w := newWorld(t, p, parts, most, sec)
					same(t, "a new world", tell(w), fmt.Sprint(0, 0, []api.Pod{}, []api.Request{}, make([]int, parts), []api.Message{}))
					happen(t, w, tick(1))
					same(t, "Now", w.Now(), 1)
				}
			}
		}
	}
}

// Each pod may do most things at once, but one at least.
func TestP23Most(t *testing.T) {
	for _, x := range []struct{ most, runs int }{{math.MinInt, 1}, {-1, 1}, {0, 1}, {1, 1}, {2, 2}, {3, 3}, {5, 5}, {6, 6}, {7, 6}, {100, 6}, {101, 6}, {math.MaxInt, 6}} {
		w := open(t, simple(), x.most, 1)
		for source := range 6 {
			happen(t, w, ask(source, 10))
		}
		wantPods(t, w, fmt.Sprintf("1:3:%d", x.runs))
	}
}

func TestP23Now(t *testing.T) {
	w := newWorld(t, simple(depth(1, 0)), 1, 1, 500)
	now := 0
	for _, n := range []int{1, 2, 999, 1000, 1000, 7} {
		happen(t, w, tick(n), put(1), lease(1), ask(0, 1), come(0, 1), pause(3))
		now += n
		same(t, "Now", w.Now(), now)
	}
}

// What the loop told last, also if pods came or went since.
func TestP23Target(t *testing.T) {
	w := newWorld(t, with(simple(depth(10, 0)), func(p *api.Plan) { p.Min = 2 }), 1, 1, 0)
	happen(t, w, put(30), pause(7))
	same(t, "Target ahead of a look", w.Target(), 0)
	happen(t, w, pause(-1))
	wantTargets(t, w, 3)
	happen(t, w, crash(1), put(50), pause(9))
	same(t, "Target behind a look", w.Target(), 3)
	wantTargets(t, w, 9)
}

func TestP23Lags(t *testing.T) {
	w := newWorld(t, simple(), 3, 1, 0)
	happen(t, w, come(1, 5), come(2, 100000), come(1, 2), take(1, 3))
	same(t, "Lags", w.Lags(), []int{0, 4, 100000})
	happen(t, w, take(1, 3), take(2, 1), take(1, 7))
	same(t, "Lags", w.Lags(), []int{0, 0, 99999})
	refuse(t, w, api.ErrNone, come(-1, 1), come(3, 1), come(math.MinInt, 0), come(math.MaxInt, 1), take(-1, 0), take(3, 0), take(3, -1))
	refuse(t, w, api.ErrArg, come(0, 0), come(2, -1), come(0, 100001), come(1, math.MinInt), come(1, math.MaxInt),
		take(0, 1), take(0, -1), take(1, 6), take(1, 8), take(2, 0), take(2, 100001), take(1, math.MinInt), take(1, math.MaxInt))
}

// Messages are lent by the clock, and told by it.
func TestP23Messages(t *testing.T) {
	w := newWorld(t, simple(), 1, 1, 12345)
	happen(t, w, put(3), tick(4), lease(5), lease(1))
	lent := []api.Message{{Id: 1, Till: 9, Taken: true}, {Id: 2, Till: 5, Taken: true}, {Id: 3}}
	same(t, "Messages", w.Messages(), lent)
	happen(t, w, tick(1))
	lent[1] = api.Message{Id: 2}
	same(t, "Messages", w.Messages(), lent)
	refuse(t, w, api.ErrState, ack(2), ack(3))
	refuse(t, w, api.ErrNone, ack(0), ack(4), ack(-1), ack(math.MaxInt), ack(math.MinInt))
	happen(t, w, tick(3), ack(1), lease(100000), put(1))
	same(t, "Messages", w.Messages(), []api.Message{{Id: 2, Till: 100008, Taken: true}, {Id: 3}, {Id: 4}})
	refuse(t, w, api.ErrNone, ack(1))
	refuse(t, w, api.ErrArg, lease(0), lease(-1), lease(100001), lease(math.MinInt), lease(math.MaxInt), put(0), put(-1), put(math.MinInt))
	refuse(t, w, api.ErrFull, put(198), put(math.MaxInt))
	happen(t, w, put(197))
	refuse(t, w, api.ErrFull, put(1))
}

// Nothing else is asked ahead of it, which would give back what is due.
func TestP24AckAtTheClock(t *testing.T) {
	w := newWorld(t, simple(), 1, 1, 0)
	happen(t, w, put(2), tick(3), lease(2), tick(1), ack(1), lease(2), tick(2))
	if e := w.Do(ack(2)); e != api.ErrState {
		t.Fatalf("Ack of what is due: %d, not ErrState", e)
	}
	happen(t, w, lease(2), tick(1), ack(2))
	refuse(t, w, api.ErrNone, lease(2), ack(2))
}

func TestP24WrongKind(t *testing.T) {
	w := open(t, simple(lag(1, 0)), 2, 1)
	happen(t, w, ask(0, 5), ask(0, 5), put(3), lease(3))
	for _, kind := range []int{math.MinInt, -13, -1, 0, 14, 15, 100, math.MaxInt} {
		for a := -1; a <= 1; a++ {
			for n := -1; n <= 2; n++ {
				refuse(t, w, api.ErrArg, api.Happens{Kind: kind, A: a, N: n})
			}
		}
	}
}

func TestP24TickWrong(t *testing.T) {
	w := newWorld(t, simple(depth(1, 0)), 1, 1, 0)
	happen(t, w, put(1), ask(0, 1))
	refuse(t, w, api.ErrArg, tick(0), tick(-1), tick(1001), tick(1002), tick(clock), tick(math.MinInt), tick(math.MaxInt))
	happen(t, w, tick(1000))
	same(t, "Now", w.Now(), 1000)
}

// No run of calls gets there within the bounds of what is promised.
func TestP24TickToTheEnd(t *testing.T) {
	for _, left := range []int{1, 3, 999, 1000} {
		w := newWorld(t, simple(depth(1, 0)), 1, 1, 0)
		w.now = clock - left
		happen(t, w, put(2))
		refuse(t, w, api.ErrArg, tick(left+1), tick(1001))
		happen(t, w, tick(left))
		same(t, "Now", w.Now(), clock)
		same(t, "Target", w.Target(), 2)
		refuse(t, w, api.ErrArg, tick(1), tick(1000))
		happen(t, w, lease(1), ask(3, 100000), start(1), ready(1))
		wantFates(t, w, "2@1")
		same(t, "Messages", w.Messages(), []api.Message{{Id: 1, Till: clock + 1, Taken: true}, {Id: 2}})
		happen(t, w, ack(1), done(1))
	}
}

// A tick is a second.
func TestP23SecIsWhereTheClockBegins(t *testing.T) {
	for _, x := range []struct{ sec, shift int }{{8*hour - 3, 0}, {7*hour - 3, 60}, {-86400 + 8*hour - 3, 0}, {23*hour - 3, -900}, {-10000000000 + 6400 - 3, 0}} {
		w := newWorld(t, with(simple(office(t, 4)), func(p *api.Plan) { p.Shift = x.shift }), 1, 1, x.sec)
		wantTargets(t, w, 0, 0, 4, 4)
		for range 35 {
			happen(t, w, tick(1000))
		}
		happen(t, w, tick(10*hour-35000-2))
		same(t, "Target", w.Target(), 4)
		wantTargets(t, w, 1, 1, 1, 1, 1, 0)
	}
}

// At 10^11 it is 9:46:40, and so it stays for spans.
func TestP24SecStopsAtMaxTime(t *testing.T) {
	for _, sec := range []int{-10000000000, 0, 10000000000} {
		w := newWorld(t, with(simple(office(t, 4)), func(p *api.Plan) { p.Max = 5 }), 1, 1, sec)
		// From 7:59:58 on.
		w.now = far - sec - hour - 46*60 - 42
		wantTargets(t, w, 0, 4)
		w.now = far - sec - 1
		wantTargets(t, w, 4, 4, 4)
		w.now = far - sec + 12*hour
		wantTargets(t, w, 4)
		w.now = clock - 2
		wantTargets(t, w, 4, 4)
	}
}

func TestP24TickLooksWhenDue(t *testing.T) {
	for _, poll := range []int{1, 2, 5, 1000} {
		w := newWorld(t, with(simple(depth(1, 0)), func(p *api.Plan) { p.Poll, p.Max = poll, 50 }), 1, 1, 0)
		told := 0
		for now := 1; now <= 12; now++ {
			happen(t, w, put(1), tick(1))
			if (now-1)%poll == 0 {
				told = now
			}
			if w.Target() != told || len(w.Pods()) != told {
				t.Fatalf("poll %d, at %d: %d, %v", poll, now, w.Target(), w.Pods())
			}
		}
	}
}

// It looks as often as it is due within one happening, too.
func TestP24TickIsOneByOne(t *testing.T) {
	slow := with(simple(depth(10, 0)), func(p *api.Plan) { p.Poll, p.Up = 2, api.Pace{Pods: 1, Period: 4} })
	w := newWorld(t, slow, 1, 1, 0)
	happen(t, w, put(100), tick(4))
	same(t, "Target", w.Target(), 1)
	happen(t, w, tick(1))
	same(t, "Target", w.Target(), 2)
	happen(t, w, tick(11))
	same(t, "Target", w.Target(), 4)
	wantPods(t, w, "1:1:0 2:1:0 3:1:0 4:1:0")
}

func TestP24ReadsLags(t *testing.T) {
	w := newWorld(t, simple(lag(10, 0)), 3, 1, 0)
	happen(t, w, put(200), come(0, 500))
	wantTargets(t, w, 1)
	happen(t, w, come(1, 1))
	wantTargets(t, w, 2)
	happen(t, w, take(0, 495))
	wantTargets(t, w, 1)
	happen(t, w, come(2, 30))
	wantTargets(t, w, 3)
	happen(t, w, take(0, 500), take(1, 1), take(2, 30))
	wantTargets(t, w, 1, 1, 1, 1, 1, 0)
}

// What is lent is not read, until it comes back.
func TestP24ReadsDepth(t *testing.T) {
	w := newWorld(t, simple(depth(1, 0)), 3, 1, 0)
	happen(t, w, come(0, 500), come(1, 500), put(4))
	wantTargets(t, w, 4)
	happen(t, w, lease(2), lease(3))
	wantTargets(t, w, 2, 3, 4)
	happen(t, w, lease(5), ack(1))
	wantTargets(t, w, 3)
	w = newWorld(t, simple(depth(1, 50)), 3, 1, 0)
	wantTargets(t, w, 0)
}

func TestP24ReadsEachTriggerItsOwn(t *testing.T) {
	w := newWorld(t, simple(office(t, 2), depth(10, 0), lag(10, 0)), 3, 1, 8*hour-2)
	wantTargets(t, w, 0, 2)
	happen(t, w, put(35))
	wantTargets(t, w, 4)
	happen(t, w, come(0, 90), come(1, 90), come(2, 90))
	wantTargets(t, w, 4)
	happen(t, w, lease(9), lease(9), lease(9), lease(9), lease(9))
	wantTargets(t, w, 3)
	happen(t, w, take(0, 90), take(1, 90))
	wantTargets(t, w, 3)
	for range 20 {
		happen(t, w, lease(9))
	}
	wantTargets(t, w, 2)
}

func TestP24Fail(t *testing.T) {
	w := newWorld(t, simple(depth(10, 0), lag(10, 0), office(t, 5)), 1, 1, 0)
	refuse(t, w, api.ErrNone, fails(-1, 1), fails(3, 1), fails(5, 0), fails(3, 2), fails(math.MinInt, 0), fails(math.MaxInt, 1))
	refuse(t, w, api.ErrArg, fails(0, 2), fails(1, -1), fails(2, 3), fails(0, math.MinInt), fails(0, math.MaxInt))
	happen(t, w, put(35), fails(0, 0), fails(1, 0))
	wantTargets(t, w, 4)
	// What it would tell is not taken for zero, nor for anything else.
	happen(t, w, fails(0, 1), put(50))
	wantTargets(t, w, 4, 4, 4)
	happen(t, w, fails(0, 1))
	wantTargets(t, w, 4)
	happen(t, w, fails(0, 0))
	wantTargets(t, w, 9)
	refuse(t, w, api.ErrArg, fails(0, 2), fails(0, -1))
	wantTargets(t, w, 9)
	// With none there is a need.
	w = newWorld(t, simple(depth(10, 0), lag(10, 0)), 1, 1, 0)
	happen(t, w, fails(1, 1))
	wantTargets(t, w, 1, 1, 1, 1, 1, 1, 1, 1)
	happen(t, w, fails(1, 0))
	wantTargets(t, w, 1, 1, 1, 1, 1, 0)
	refuse(t, w, api.ErrNone, fails(2, 1))
}

// How often in a row is the loop's business.
func TestP24FailBack(t *testing.T) {
	p := with(simple(depth(10, 0), lag(10, 0)), func(p *api.Plan) { p.Back, p.After, p.Poll = 6, 3, 2 })
	w := newWorld(t, p, 1, 1, 0)
	happen(t, w, fails(0, 1))
	wantTargets(t, w, 1, 1, 1, 1, 6, 6, 6)
	happen(t, w, fails(0, 0), fails(0, 1))
	wantTargets(t, w, 6, 6)
	happen(t, w, fails(0, 0), fails(1, 1), pause(2))
	wantTargets(t, w, 6, 2)
	happen(t, w, pause(-1))
	wantTargets(t, w, 2, 2, 2, 6)
}

// A span reads nothing, and so does not fail, but is a trigger.
func TestP24FailSpan(t *testing.T) {
	w := newWorld(t, simple(office(t, 5)), 1, 1, 8*hour-3)
	happen(t, w, fails(0, 1))
	wantTargets(t, w, 0, 0, 5, 5)
	happen(t, w, fails(0, 0))
	wantTargets(t, w, 5)
	w = newWorld(t, simple(), 1, 1, 0)
	refuse(t, w, api.ErrNone, fails(0, 1), fails(0, 0))
}

// The loop is told how many pods there are that aren't draining.
func TestP24Have(t *testing.T) {
	w := open(t, simple(depth(10, 0)), 1, 3)
	happen(t, w, ask(0, 9), ask(1, 9), ask(2, 9), pause(1), tick(1))
	wantPods(t, w, "1:3:1 2:4:1 3:4:1")
	happen(t, w, pause(-1), fails(0, 1))
	wantTargets(t, w, 1)
	wantPods(t, w, "1:3:1 2:4:1 3:4:1")
	happen(t, w, crash(1))
	wantTargets(t, w, 1)
	wantPods(t, w, "2:4:1 3:4:1 4:1:0")
	// Those that are pending, or start, are there.
	happen(t, w, pause(3), tick(1), start(5), pause(-1))
	wantTargets(t, w, 3, 3)
}

func TestP24Pause(t *testing.T) {
	w := newWorld(t, with(simple(depth(10, 0)), func(p *api.Plan) { p.Min, p.Poll = 2, 3 }), 1, 1, 0)
	refuse(t, w, api.ErrArg, pause(-2), pause(51), pause(math.MinInt), pause(math.MaxInt))
	wantTargets(t, w, 2)
	happen(t, w, pause(50))
	wantTargets(t, w, 2, 2, 50)
	same(t, "pods", len(w.Pods()), 50)
	refuse(t, w, api.ErrArg, pause(-2), pause(51))
	happen(t, w, tick(3))
	same(t, "pods", len(w.Pods()), 50)
	happen(t, w, pause(0), tick(3))
	wantPods(t, w, "")
	happen(t, w, pause(-1), pause(-1), tick(3))
	wantPods(t, w, "51:1:0 52:1:0")
}

// The document's own example: the first request makes a pod.
func TestP24FirstRequestMakesAPod(t *testing.T) {
	w := newWorld(t, simple(depth(10, 0)), 1, 1, 0)
	wantTargets(t, w, 0, 0, 0, 0, 0, 0, 0, 0, 0, 0)
	happen(t, w, ask(2, 20))
	wantPods(t, w, "")
	wantTargets(t, w, 1, 1)
	happen(t, w, start(1), tick(1))
	wantFates(t, w, "1")
	happen(t, w, ready(1))
	wantFates(t, w, "2@1")
	// It is needed as long as the request runs, and six ticks more.
	wantTargets(t, w, 1, 1, 1, 1, 1, 1, 1, 1, 1, 1, 1, 1, 1, 1, 1, 1, 1, 1, 1, 1, 1, 1, 1)
	happen(t, w, done(1))
	wantFates(t, w, "3@1")
	wantTargets(t, w, 1, 1, 1, 1, 1, 0, 0)
	wantPods(t, w, "")
}

// Late just at its time, and only if it never ran.
func TestP24Late(t *testing.T) {
	w := open(t, simple(), 1, 1)
	happen(t, w, tick(2), ask(0, 4), ask(0, 4), ask(1, 2), ask(0, 5))
	wantFates(t, w, "2@1 1 1 1")
	happen(t, w, tick(1))
	wantFates(t, w, "2@1 1 1 1")
	happen(t, w, tick(1))
	wantFates(t, w, "2@1 1 4 1")
	happen(t, w, tick(1))
	wantFates(t, w, "2@1 1 4 1")
	happen(t, w, tick(1))
	wantFates(t, w, "2@1 4 4 1")
	happen(t, w, tick(1))
	wantFates(t, w, "2@1 4 4 4")
	happen(t, w, tick(1000), done(1))
	wantFates(t, w, "3@1 4 4 4")
	refuse(t, w, api.ErrState, done(2), done(3))
}

func TestP24LateWithinOneHappening(t *testing.T) {
	w := open(t, simple(), 1, 0)
	happen(t, w, ask(0, 5), ask(0, 6), ask(0, 100000), tick(5))
	wantFates(t, w, "4 1 1")
	same(t, "Requests", w.Requests()[1], api.Request{Id: 2, Till: 7, Fate: api.FWaits})
	happen(t, w, tick(1000))
	wantFates(t, w, "4 4 1")
}

// What is late at a tick is not needed at its look any more, and one that
// runs makes a need however late it would be.
func TestP24LateAheadOfTheLook(t *testing.T) {
	w := newWorld(t, with(simple(), func(p *api.Plan) { p.Cool = 1 }), 1, 1, 0)
	happen(t, w, ask(0, 1))
	wantTargets(t, w, 0)
	wantFates(t, w, "4")
	happen(t, w, ask(0, 2))
	wantTargets(t, w, 1, 0)
	happen(t, w, ask(0, 4))
	wantTargets(t, w, 1)
	happen(t, w, start(2), ready(2))
	wantTargets(t, w, 1, 1, 1, 1, 1, 1)
	happen(t, w, done(3))
	wantTargets(t, w, 0)
}

func TestP24Start(t *testing.T) {
	w := newWorld(t, simple(), 1, 1, 0)
	happen(t, w, ask(0, 50), pause(2), tick(1), start(2))
	wantPods(t, w, "1:1:0 2:2:0")
	refuse(t, w, api.ErrNone, start(0), start(3), start(-1), start(math.MinInt), start(math.MaxInt))
	refuse(t, w, api.ErrState, start(2))
	happen(t, w, ready(2))
	refuse(t, w, api.ErrState, start(2))
	wantFates(t, w, "2@2")
}

func TestP24Ready(t *testing.T) {
	w := newWorld(t, simple(), 1, 2, 0)
	happen(t, w, ask(0, 50), ask(0, 50), ask(1, 50), ask(2, 50), pause(2), tick(1), start(1), start(2))
	refuse(t, w, api.ErrNone, ready(0), ready(3), ready(-1), ready(math.MinInt), ready(math.MaxInt))
	wantFates(t, w, "1 1 1 1")
	happen(t, w, ready(2))
	wantFates(t, w, "2@2 1 2@2 1")
	wantPods(t, w, "1:2:0 2:3:2")
	refuse(t, w, api.ErrState, ready(2))
	happen(t, w, ready(1))
	wantFates(t, w, "2@2 1 2@2 2@1")
	happen(t, w, pause(3), tick(1))
	refuse(t, w, api.ErrState, ready(3))
}

// One of a source at a time, by number, to the pod with the least to do.
func TestP24HandingOn(t *testing.T) {
	w := open(t, simple(), 2, 3)
	happen(t, w, ask(5, 9), ask(5, 9), ask(0, 9), ask(1, 9), ask(2, 9))
	wantFates(t, w, "2@1 1 2@2 2@3 2@1")
	wantPods(t, w, "1:3:2 2:3:1 3:3:1")
	happen(t, w, ask(3, 9), ask(4, 9), ask(4, 9), ask(0, 9))
	wantFates(t, w, "2@1 1 2@2 2@3 2@1 2@2 2@3 1 1")
	happen(t, w, done(3))
	wantFates(t, w, "2@1 1 3@2 2@3 2@1 2@2 2@3 1 2@2")
	happen(t, w, done(7), done(1))
	wantFates(t, w, "3@1 2@1 3@2 2@3 2@1 2@2 3@3 2@3 2@2")
	wantPods(t, w, "1:3:2 2:3:2 3:3:2")
}

// With nothing that waits no pod is given anything.
func TestP24HandingOnNothing(t *testing.T) {
	w := open(t, simple(), 2, 2)
	happen(t, w, tick(5), ask(0, 9), done(1), pause(3), tick(5), crash(2))
	wantPods(t, w, "1:3:0 3:1:0")
	happen(t, w, ask(0, 9), ask(0, 9), ask(0, 9), tick(1))
	wantPods(t, w, "1:3:1 3:1:0 4:1:0")
}

func TestP24Ask(t *testing.T) {
	w := newWorld(t, simple(), 1, 1, 0)
	happen(t, w, tick(3))
	refuse(t, w, api.ErrArg, ask(0, 0), ask(5, -1), ask(0, 100001), ask(6, 0), ask(0, math.MinInt), ask(0, math.MaxInt))
	refuse(t, w, api.ErrNone, ask(-1, 1), ask(6, 100000), ask(math.MinInt, 1), ask(math.MaxInt, 1))
	happen(t, w, ask(0, 1), ask(5, 100000))
	same(t, "Requests", w.Requests(), []api.Request{{Id: 1, Source: 0, Till: 4, Fate: api.FWaits}, {Id: 2, Source: 5, Till: 100003, Fate: api.FWaits}})
	for range 20 {
		happen(t, w, ask(3, 9))
	}
	refuse(t, w, api.ErrFull, ask(3, 9))
	for range 19 {
		happen(t, w, ask(2, 9))
	}
	for range 19 {
		happen(t, w, ask(1, 9))
	}
	refuse(t, w, api.ErrFull, ask(1, 9), ask(4, 9), ask(3, 9))
	// One is late, so that there is room.
	happen(t, w, tick(1), ask(4, 9))
	refuse(t, w, api.ErrFull, ask(4, 9))
}

// Requests that are over stay, and take of what there may be.
func TestP24AskAll(t *testing.T) {
	w := open(t, simple(), 1, 1)
	for id := 1; id <= 200; id++ {
		happen(t, w, ask(id%6, 5), done(id))
	}
	refuse(t, w, api.ErrFull, ask(0, 5))
	refuse(t, w, api.ErrState, done(1), done(200))
	refuse(t, w, api.ErrNone, done(201))
	wantPods(t, w, "1:3:0")
}

func TestP24Done(t *testing.T) {
	w := open(t, simple(), 1, 1)
	refuse(t, w, api.ErrNone, done(1), done(0))
	happen(t, w, ask(0, 9), ask(1, 9), ask(0, 9))
	refuse(t, w, api.ErrNone, done(0), done(4), done(-1), done(math.MinInt), done(math.MaxInt))
	refuse(t, w, api.ErrState, done(2), done(3))
	happen(t, w, done(1))
	wantFates(t, w, "3@1 2@1 1")
	refuse(t, w, api.ErrState, done(1), done(3))
	happen(t, w, done(2))
	wantFates(t, w, "3@1 3@1 2@1")
	wantPods(t, w, "1:3:1")
	happen(t, w, done(3))
	wantPods(t, w, "1:3:0")
}

// What runs at a pod that is gone failed, and what waits runs elsewhere.
func TestP24Crash(t *testing.T) {
	w := open(t, simple(), 2, 2)
	happen(t, w, ask(0, 9), ask(1, 9), ask(2, 9), ask(0, 9), ask(2, 9), ask(1, 9))
	wantFates(t, w, "2@1 2@2 2@1 1 1 1")
	refuse(t, w, api.ErrNone, crash(0), crash(3), crash(-1), crash(math.MinInt), crash(math.MaxInt))
	happen(t, w, crash(1))
	wantFates(t, w, "5@1 2@2 5@1 2@2 1 1")
	wantPods(t, w, "2:3:2")
	refuse(t, w, api.ErrNone, crash(1))
	refuse(t, w, api.ErrState, done(1), done(3))
	happen(t, w, crash(2))
	wantFates(t, w, "5@1 5@2 5@1 5@2 1 1")
	wantPods(t, w, "")
	// It is made again at the next look, with a number of its own.
	happen(t, w, tick(1), crash(3), start(4))
	wantPods(t, w, "4:2:0")
	happen(t, w, crash(4))
	wantFates(t, w, "5@1 5@2 5@1 5@2 1 1")
}

// Who is drained does what it has, and takes nothing more.
func TestP24Draining(t *testing.T) {
	w := open(t, simple(), 2, 2)
	happen(t, w, ask(0, 50), ask(1, 50), ask(2, 50), ask(3, 50), ask(0, 50), ask(1, 50), pause(0), tick(1))
	wantPods(t, w, "1:4:2 2:4:2")
	wantFates(t, w, "2@1 2@2 2@1 2@2 1 1")
	happen(t, w, done(1), tick(1))
	wantPods(t, w, "1:4:1 2:4:2")
	wantFates(t, w, "3@1 2@2 2@1 2@2 1 1")
	refuse(t, w, api.ErrState, start(1), ready(1))
	happen(t, w, done(3))
	wantPods(t, w, "2:4:2")
	happen(t, w, crash(2))
	wantPods(t, w, "")
	wantFates(t, w, "3@1 5@2 3@1 5@2 1 1")
	happen(t, w, pause(1), tick(1), start(3), ready(3))
	wantFates(t, w, "3@1 5@2 3@1 5@2 2@3 2@3")
}

// A world with a pace, a window, and all kinds of triggers.
func TestP23P24Together(t *testing.T) {
	p := api.Plan{
		Name: "all", Max: 8, Poll: 10, Cool: 60, Tolerance: 100, Back: 3, After: 2, Shift: 60,
		Up: api.Pace{Pods: 2, Period: 30}, Down: api.Pace{Window: 60},
		Triggers: []api.Trigger{lag(10, 0), depth(5, 2), office(t, 2)},
	}
	w := newWorld(t, p, 4, 1, 7*hour-30)
	var targets []int
	happen(t, w, come(0, 40), come(1, 30), come(3, 9), put(2))
	for step := range 24 {
		switch step {
		case 6:
			happen(t, w, take(0, 40), take(1, 30), take(3, 9))
		case 12:
			happen(t, w, fails(0, 1))
		case 20:
			happen(t, w, fails(0, 0))
		}
		happen(t, w, tick(10))
		targets = append(targets, w.Target())
	}
	same(t, "targets", targets, []int{2, 2, 2, 3, 3, 3, 3, 3, 3, 3, 3, 2, 2, 3, 3, 3, 3, 3, 3, 3, 3, 3, 3, 3})
	if !slices.Equal(w.Lags(), []int{0, 0, 0, 0}) || w.Now() != 240 {
		t.Error(w.Lags(), w.Now())
	}
}
