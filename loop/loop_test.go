package loop

import (
	"math"
	"strings"
	"testing"

	"tidewheel/api"
	"tidewheel/cron"
	"tidewheel/plan"
)

const (
	hour  = 3600
	clock = 1 << 40      // MaxClock as the document writes it
	far   = 100000000000 // MaxTime likewise
)

func lag(target, active int) api.Trigger {
	return api.Trigger{Kind: api.KLag, Target: target, Active: active}
}

func depth(target, active int) api.Trigger {
	return api.Trigger{Kind: api.KDepth, Target: target, Active: active}
}

// office is on from 8:00 to 18:00.
func office(t testing.TB, pods int) api.Trigger {
	t.Helper()
	start, e := cron.Parse("0 8 * * *")
	end, f := cron.Parse("0 18 * * *")
	if e != api.OK || f != api.OK {
		t.Fatal(e, f)
	}
	return api.Trigger{Kind: api.KSpan, Target: pods, Span: api.Span{Start: start, End: end}}
}

func read(lags ...int) api.Reading { return api.Reading{Lags: lags} }

// failed has lags that are not to be read.
func failed() api.Reading { return api.Reading{Failed: true, Lags: []int{500}} }

// simple is a plan without paces, whose Cool is 6.
func simple(triggers ...api.Trigger) api.Plan {
	return api.Plan{Name: "p", Max: 9, Poll: 2, Cool: 6, Triggers: triggers}
}

// with is a plan with some of its numbers changed.
func with(p api.Plan, change func(p *api.Plan)) api.Plan {
	change(&p)
	return p
}

func newLoop(t testing.TB, p api.Plan) *Loop {
	t.Helper()
	l, e := New(p)
	if l == nil || e != api.OK {
		t.Fatalf("New(%v) = %v, %d", p, l, e)
	}
	return l
}

// look is a Look, and how many pods it tells.
type look struct {
	now, sec, have int
	r              []api.Reading
	busy           bool
	n              int
}

// at is a look at 0:00:00 of 1970, with nothing that is asked for.
func at(now, have, n int, r ...api.Reading) look {
	return look{now: now, have: have, n: n, r: r}
}

func (x look) by(sec int) look {
	x.sec = sec
	return x
}

func (x look) asked() look {
	x.busy = true
	return x
}

func tell(t testing.TB, l *Loop, looks ...look) {
	t.Helper()
	for i, x := range looks {
		if n, e := l.Look(x.now, x.sec, x.have, x.r, x.busy); n != x.n || e != api.OK {
			t.Fatalf("look %d: Look(%d, %d, %d, %v, %t) = %d, %d, not %d, OK", i, x.now, x.sec, x.have, x.r, x.busy, n, e, x.n)
		}
	}
}

func refuse(t testing.TB, l *Loop, looks ...look) {
	t.Helper()
	for i, x := range looks {
		if n, e := l.Look(x.now, x.sec, x.have, x.r, x.busy); n != 0 || e != api.ErrArg {
			t.Fatalf("look %d: Look(%d, %d, %d, %v, %t) = %d, %d, not 0, ErrArg", i, x.now, x.sec, x.have, x.r, x.busy, n, e)
		}
	}
}

func wantDue(t testing.TB, l *Loop, want bool, times ...int) {
	t.Helper()
	for _, now := range times {
		if due := l.Due(now); due != want {
			t.Errorf("Due(%d) = %t", now, due)
		}
	}
}

func wantPause(t testing.TB, l *Loop, n int, want api.Errno) {
	t.Helper()
	if e := l.Pause(n); e != want {
		t.Errorf("Pause(%d) = %d, not %d", n, e, want)
	}
}

func wantFails(t testing.TB, l *Loop, want ...int) {
	t.Helper()
	for trigger, fails := range want {
		if n := l.Fails(trigger); n != fails {
			t.Errorf("Fails(%d) = %d, not %d", trigger, n, fails)
		}
	}
	for _, trigger := range []int{math.MinInt, -1, len(want), len(want) + 1, 5, math.MaxInt} {
		if n := l.Fails(trigger); n != 0 {
			t.Errorf("Fails(%d) = %d, not 0", trigger, n)
		}
	}
}

func TestP21NewWrong(t *testing.T) {
	for _, x := range []struct {
		p    api.Plan
		want api.Errno
	}{
		{api.Plan{}, api.ErrSyntax},
		{with(simple(), func(p *api.Plan) { p.Name = "" }), api.ErrSyntax},
		{with(simple(), func(p *api.Plan) { p.Name = "P" }), api.ErrSyntax},
		{with(simple(), func(p *api.Plan) { p.Name = strings.Repeat("a", 17) }), api.ErrSyntax},
		{simple(make([]api.Trigger, 6)...), api.ErrLarge},
		{with(simple(), func(p *api.Plan) { p.Min = -1 }), api.ErrArg},
		{with(simple(), func(p *api.Plan) { p.Min = 10 }), api.ErrArg},
		{with(simple(), func(p *api.Plan) { p.Max = 0 }), api.ErrArg},
		{with(simple(), func(p *api.Plan) { p.Max = 51 }), api.ErrArg},
		{with(simple(), func(p *api.Plan) { p.Poll = 0 }), api.ErrArg},
		{with(simple(), func(p *api.Plan) { p.Poll = 100001 }), api.ErrArg},
		{with(simple(), func(p *api.Plan) { p.Cool = 0 }), api.ErrArg},
		{with(simple(), func(p *api.Plan) { p.Tolerance = 1001 }), api.ErrArg},
		{with(simple(), func(p *api.Plan) { p.Back = 51 }), api.ErrArg},
		{with(simple(), func(p *api.Plan) { p.After = 101 }), api.ErrArg},
		{with(simple(), func(p *api.Plan) { p.Shift = -901 }), api.ErrArg},
		{with(simple(), func(p *api.Plan) { p.Up.Window = -1 }), api.ErrArg},
		{with(simple(), func(p *api.Plan) { p.Down.Percent = 1001 }), api.ErrArg},
		{simple(depth(10, 0), lag(0, 0)), api.ErrArg},
		{simple(api.Trigger{Kind: 4, Target: 1}), api.ErrArg},
		{simple(api.Trigger{Kind: api.KSpan, Target: 1}), api.ErrArg},
		{simple(office(t, 51)), api.ErrArg},
	} {
		if l, e := New(x.p); l != nil || e != x.want {
			t.Errorf("New(%v) = %v, %d, not nil, %d", x.p, l, e, x.want)
		}
		if e := plan.Check(x.p); e != x.want {
			t.Errorf("Check(%v) = %d, not %d", x.p, e, x.want)
		}
	}
}

func TestP21New(t *testing.T) {
	five := []api.Trigger{depth(1, 0), lag(1000000, 1000000), office(t, 50), depth(1000000, 0), lag(1, 0)}
	for _, p := range []api.Plan{
		{Name: "a", Max: 1, Poll: 1, Cool: 1},
		simple(five...),
		{
			Name: "0123456789-abcde", Min: 50, Max: 50, Poll: 100000, Cool: 100000, Tolerance: 1000, Back: 50, After: 100, Shift: 900,
			Up: api.Pace{Window: 100000, Pods: 50, Percent: 1000, Period: 100000}, Down: api.Pace{Window: 100000, Pods: 50, Percent: 1000, Period: 100000},
			Triggers: five,
		},
	} {
		l := newLoop(t, p)
		wantFails(t, l, make([]int, len(p.Triggers))...)
		wantDue(t, l, true, 0, clock)
	}
}

func TestP21Due(t *testing.T) {
	for _, poll := range []int{1, 2, 3, 100000} {
		l := newLoop(t, with(simple(), func(p *api.Plan) { p.Poll = poll }))
		wantDue(t, l, true, math.MinInt, -1, 0, 1, clock, math.MaxInt)
		for _, now := range []int{0, 5, 5, 2000000, clock} {
			tell(t, l, at(now, 0, 0))
			wantDue(t, l, false, math.MinInt, math.MinInt+1, -1, now-1, now, now+poll-1)
			wantDue(t, l, true, now+poll, now+poll+1, math.MaxInt-1, math.MaxInt)
		}
	}
}

// A Look that was refused is none, and Due itself is none; one in a pause is.
func TestP21DueCountsLooksThatAnswered(t *testing.T) {
	l := newLoop(t, simple())
	refuse(t, l, at(-1, 0, 0), at(1, 51, 0))
	wantDue(t, l, true, 0, 1, 2)
	tell(t, l, at(10, 0, 0))
	refuse(t, l, at(11, 51, 0), at(20, 0, 0, read()))
	wantDue(t, l, false, 10, 11)
	wantDue(t, l, true, 12, 13, 12)
	wantDue(t, l, false, 11)
	wantPause(t, l, 3, api.OK)
	wantDue(t, l, true, 12)
	tell(t, l, at(12, 0, 3))
	wantDue(t, l, false, 13)
	wantDue(t, l, true, 14)
	wantPause(t, l, -1, api.OK)
	wantDue(t, l, false, 13)
}

func TestP21Pause(t *testing.T) {
	l := newLoop(t, with(simple(depth(10, 0)), func(p *api.Plan) { p.Min = 2 }))
	tell(t, l, at(0, 4, 4, read(40)))
	// It is told as it is, also where the plan has fewer, or more.
	for _, n := range []int{0, 1, 2, 7, 9, 10, 50} {
		wantPause(t, l, n, api.OK)
		tell(t, l, at(1, 4, n, read(40)), at(1, 0, n, read(0)).asked(), at(2, 50, n, failed()))
		wantPause(t, l, -1, api.OK)
		tell(t, l, at(2, 4, 4, read(40)))
		l = newLoop(t, with(simple(depth(10, 0)), func(p *api.Plan) { p.Min = 2 }))
	}
	// Of two the last one holds, and to have none is no fault.
	wantPause(t, l, -1, api.OK)
	wantPause(t, l, -1, api.OK)
	wantPause(t, l, 3, api.OK)
	wantPause(t, l, 5, api.OK)
	tell(t, l, at(5, 4, 5, read(40)))
}

func TestP21PauseWrong(t *testing.T) {
	l := newLoop(t, simple(depth(10, 0)))
	for _, n := range []int{math.MinInt, -50, -2, 51, 52, math.MaxInt} {
		wantPause(t, l, n, api.ErrArg)
		tell(t, l, at(0, 4, 3, read(30)))
	}
	wantPause(t, l, 7, api.OK)
	for _, n := range []int{math.MinInt, -2, 51, math.MaxInt} {
		wantPause(t, l, n, api.ErrArg)
		tell(t, l, at(1, 4, 7, read(30)))
	}
}

// In a pause failures are counted, and that is all: nothing is known as
// wanted, no pods as made, and no need is kept in mind.
func TestP22PauseIsAll(t *testing.T) {
	l := newLoop(t, with(simple(depth(10, 0), office(t, 3)), func(p *api.Plan) { p.Back, p.After = 4, 3 }))
	tell(t, l, at(0, 0, 1, read(0), read()).asked())
	wantPause(t, l, 2, api.OK)
	tell(t, l,
		at(10, 2, 2, read(90), read()), at(10, 2, 2, read(0), read()).asked(),
		at(11, 2, 2, failed(), read()), at(12, 2, 2, failed(), failed()).by(9*hour))
	wantFails(t, l, 2, 0)
	wantPause(t, l, -1, api.OK)
	// Were one of those a need, the last pod would stay.
	tell(t, l, at(12, 2, 0, read(0), read()))
	wantFails(t, l, 0, 0)

	l = newLoop(t, with(simple(depth(10, 0)), func(p *api.Plan) { p.Back, p.After = 4, 3 }))
	wantPause(t, l, 2, api.OK)
	tell(t, l, at(10, 2, 2, failed()), at(11, 2, 2, failed()))
	wantPause(t, l, -1, api.OK)
	tell(t, l, at(12, 2, 4, failed()))

	window := api.Pace{Window: 100}
	l = newLoop(t, with(simple(depth(10, 0)), func(p *api.Plan) { p.Up, p.Down = window, window }))
	tell(t, l, at(10, 5, 5, read(50)))
	wantPause(t, l, 7, api.OK)
	tell(t, l, at(11, 5, 7, read(0)), at(12, 5, 7, read(90)))
	wantPause(t, l, -1, api.OK)
	tell(t, l, at(13, 4, 5, read(80)), at(13, 9, 8, read(30)))

	pace := api.Pace{Pods: 1, Period: 100}
	l = newLoop(t, with(simple(depth(10, 0)), func(p *api.Plan) { p.Up, p.Down = pace, pace }))
	wantPause(t, l, 7, api.OK)
	tell(t, l, at(11, 5, 7, read(90)), at(12, 7, 7, read(0)))
	wantPause(t, l, -1, api.OK)
	tell(t, l, at(13, 5, 6, read(80)), at(13, 5, 4, read(20)))
}

func TestP21Fails(t *testing.T) {
	l := newLoop(t, simple(depth(10, 0), lag(10, 0), office(t, 3), lag(5, 5)))
	wantFails(t, l, 0, 0, 0, 0)
	none := read()
	for _, x := range []struct {
		x    look
		want []int
	}{
		{at(3, 0, 1, failed(), none, none, none), []int{1, 0, 0, 0}},
		{at(3, 0, 1, failed(), failed(), none, none), []int{2, 1, 0, 0}},
		{at(3, 0, 1, none, failed(), failed(), none), []int{0, 2, 0, 0}},
		{at(3, 0, 1, failed(), failed(), failed(), failed()), []int{1, 3, 0, 1}},
		{at(3, 0, 1, none, none, none, failed()), []int{0, 0, 0, 2}},
		{at(3, 0, 0, none, none, failed(), none), []int{0, 0, 0, 0}},
	} {
		tell(t, l, x.x)
		wantFails(t, l, x.want...)
	}
	wantFails(t, newLoop(t, simple()))
	// It goes on behind After, and behind what After may be.
	for n := range 300 {
		tell(t, l, at(9, 2, 2, none, none, none, failed()))
		wantFails(t, l, 0, 0, 0, n+1)
	}
}

func TestP22Wrong(t *testing.T) {
	l := newLoop(t, simple(depth(10, 0), lag(10, 0)))
	both := []api.Reading{read(0), read(0)}
	for _, now := range []int{math.MinInt, -clock, -1, clock + 1, math.MaxInt} {
		refuse(t, l, at(now, 0, 0, both...))
	}
	for _, sec := range []int{math.MinInt, -far - 1, far + 1, math.MaxInt} {
		refuse(t, l, at(7, 0, 0, both...).by(sec))
	}
	for _, have := range []int{math.MinInt, -1, 51, 52, math.MaxInt} {
		refuse(t, l, at(7, have, 0, both...))
	}
	refuse(t, l, at(7, 0, 0), at(7, 0, 0, read(0)), at(7, 0, 0, read(0), read(0), read(0)), at(7, 0, 0, failed()))
	tell(t, l, at(0, 0, 0, both...), at(7, 0, 0, both...), at(7, 0, 0, both...))
	refuse(t, l, at(6, 0, 0, both...), at(0, 0, 0, both...), at(-1, 0, 0, both...))
	tell(t, l, at(clock, 0, 0, both...).by(far), at(clock, 50, 0, both...).by(-far))
	refuse(t, l, at(clock-1, 0, 0, both...), at(clock+1, 0, 0, both...))
	refuse(t, newLoop(t, simple()), at(0, 0, 0, read()))
	// In a pause, too.
	wantPause(t, l, 4, api.OK)
	refuse(t, l, at(clock-1, 0, 0, both...), at(clock, 51, 0, both...), at(clock, 0, 0), at(clock, 0, 0, both...).by(far+1))
	tell(t, l, at(clock, 0, 4, both...))
}

// What a Look that was refused was given is neither counted nor known.
func TestP22RefusedChangesNothing(t *testing.T) {
	p := with(simple(depth(10, 0)), func(p *api.Plan) { p.Up.Window, p.Down.Window = 100, 100 })
	l := newLoop(t, p)
	tell(t, l, at(10, 3, 3, failed()))
	for range 3 {
		refuse(t, l,
			at(50, 51, 0, failed()), at(50, -1, 0, read(90)), at(50, 5, 0, read(90)).by(far+1),
			at(9, 5, 0, read(90)), at(9, 5, 0, failed()), at(clock+1, 5, 0, failed()),
			at(50, 5, 0, read(0), read(0)).asked(), at(50, 5, 0, failed(), failed()).asked())
	}
	wantFails(t, l, 1)
	wantDue(t, l, true, 12)
	// A need at 50 would keep the last pod, and wants of 9 or 0 the rest.
	tell(t, l, at(11, 2, 3, read(50)), at(11, 8, 5, read(20)))
	l = newLoop(t, simple(depth(10, 0)))
	refuse(t, l, at(50, 51, 0, read(0)).asked(), at(50, 0, 0).asked())
	tell(t, l, at(51, 1, 0, read(0)))
}

func TestP22WantOfDepthAndLag(t *testing.T) {
	for _, x := range []struct{ have, lag, n int }{
		{0, 0, 0}, {0, 1, 1}, {0, 10, 1}, {0, 11, 2}, {0, 25, 3}, {0, 90, 9}, {0, 91, 9}, {0, 999, 9},
		{5, 999, 9}, {9, 25, 3}, {3, 25, 3}, {50, 25, 3}, {50, 999, 9}, {0, -5, 0}, {0, math.MaxInt, 9}, {0, math.MinInt, 0},
	} {
		tell(t, newLoop(t, simple(depth(10, 0))), at(100, x.have, x.n, read(x.lag)))
	}
	// Of a lag not more than there are partitions behind.
	tell(t, newLoop(t, simple(lag(10, 0))),
		at(100, 0, 1, read(999)), at(101, 0, 2, read(999, 1)), at(102, 0, 3, read(5, 8, 9)), at(103, 0, 1, read(0, 5, 0)),
		at(104, 0, 9, read(99, 99, 99, 99, 99, 99, 99, 99, 99, 99)))
}

// As many as there are, if what they take is near to what waits.
func TestP22Tolerance(t *testing.T) {
	for _, tr := range []api.Trigger{depth(10, 0), lag(10, 0)} {
		l := newLoop(t, with(simple(tr), func(p *api.Plan) { p.Tolerance = 200 }))
		tell(t, l,
			at(100, 5, 5, read(50, 0)), at(100, 5, 5, read(40)), at(100, 5, 5, read(60)), at(100, 0, 1, read(1)))
	}
	l := newLoop(t, with(simple(depth(10, 0)), func(p *api.Plan) { p.Tolerance = 200 }))
	tell(t, l, at(100, 5, 4, read(39)), at(100, 5, 7, read(61)), at(100, 9, 9, read(108)), at(100, 9, 8, read(71)))
	// Not more than the plan says, near or not.
	tell(t, l, at(101, 20, 9, read(200)))
	// With none there is nothing near.
	l = newLoop(t, with(simple(depth(10, 0)), func(p *api.Plan) { p.Tolerance = 1000 }))
	tell(t, l, at(100, 0, 3, read(25)), at(101, 3, 3, read(0)), at(102, 3, 3, read(60)), at(103, 3, 7, read(61)))
}

func TestP22Span(t *testing.T) {
	l := newLoop(t, simple(office(t, 4)))
	none := read()
	tell(t, l,
		at(100, 0, 0, none).by(8*hour-1), at(101, 0, 4, none).by(8*hour), at(102, 9, 4, none).by(18*hour-1),
		at(103, 9, 1, none).by(18*hour), at(108, 9, 0, none).by(18*hour))
	// It reads nothing: neither lags nor a failure.
	tell(t, l, at(200, 0, 0, failed()), at(201, 7, 0, failed()), at(202, 0, 4, failed()).by(9*hour), at(209, 0, 0, read(500)))
	wantFails(t, l, 0)
	// Its clock is the plan's.
	for _, x := range []struct{ shift, sec int }{{60, 7 * hour}, {-60, 9 * hour}, {900, -7 * hour}, {-900, 23 * hour}} {
		l := newLoop(t, with(simple(office(t, 4)), func(p *api.Plan) { p.Shift = x.shift }))
		tell(t, l, at(100, 0, 0, none).by(x.sec-1), at(101, 0, 4, none).by(x.sec))
	}
	// No tolerance holds it.
	l = newLoop(t, with(simple(office(t, 4)), func(p *api.Plan) { p.Tolerance = 1000 }))
	tell(t, l, at(100, 5, 4, none).by(9*hour), at(101, 3, 4, none).by(9*hour))
	// The ends of time are no fault: it is 9:46:40, and it is 14:13:20,
	// but the beginning at 8:00 is ahead of all time.
	tell(t, l, at(200, 0, 4, none).by(far), at(300, 0, 0, none).by(-far))
}

func TestP22WantIsTheMost(t *testing.T) {
	l := newLoop(t, simple(depth(10, 0), lag(5, 0), office(t, 4)))
	none := read()
	tell(t, l,
		at(100, 0, 3, read(25), read(9), none), at(101, 0, 2, read(5), read(9, 1), none), at(102, 0, 4, read(25), none, none).by(9*hour),
		at(103, 0, 6, read(60), none, none).by(9*hour), at(104, 5, 5, failed(), read(9), none), at(105, 2, 4, failed(), read(9), none).by(9*hour),
		at(106, 2, 6, read(60), failed(), none), at(120, 5, 0, none, none, none))
	// Of no trigger none, and what is asked for needs one.
	l = newLoop(t, simple())
	tell(t, l, at(100, 0, 0), at(101, 5, 0), at(102, 5, 1).asked(), at(103, 0, 1).asked(), at(104, 5, 1), at(109, 5, 0))
}

// What a trigger that fails would tell is not taken for zero.
func TestP22Failed(t *testing.T) {
	// After is 0: never Back.
	l := newLoop(t, with(simple(depth(10, 0)), func(p *api.Plan) { p.Back = 4 }))
	for now := range 200 {
		tell(t, l, at(now, 7, 7, failed()), at(now, 2, 2, failed()), at(now, 0, 1, failed()), at(now, 20, 9, failed()))
	}
	for _, after := range []int{1, 2, 3, 100} {
		for _, back := range []int{0, 1, 4, 9, 10, 50} {
			l := newLoop(t, with(simple(depth(10, 0)), func(p *api.Plan) { p.Back, p.After = back, after }))
			told := min(max(back, 1), 9)
			for now := range 2 {
				for range after - 1 {
					tell(t, l, at(now, 7, 7, failed()))
				}
				tell(t, l, at(now, 7, told, failed()), at(now, 2, told, failed()), at(now, 0, told, failed()), at(now, 7, 3, read(30)))
			}
		}
	}
}

// Each trigger's failures are its own.
func TestP22FailedOneOfTwo(t *testing.T) {
	l := newLoop(t, with(simple(depth(10, 0), lag(10, 0)), func(p *api.Plan) { p.Back, p.After = 4, 2 }))
	tell(t, l,
		at(1, 7, 7, failed(), read()), at(2, 7, 7, read(0), failed()), at(3, 7, 7, failed(), read()),
		at(4, 7, 4, failed(), read()), at(5, 7, 7, failed(), failed()), at(6, 7, 4, failed(), failed()),
		at(7, 2, 4, failed(), read(10, 10)), at(8, 7, 9, read(99), failed()))
}

func TestP22Cool(t *testing.T) {
	for _, cool := range []int{1, 2, 6, 100000} {
		for _, need := range []look{at(1000, 3, 3, read(30)), at(1000, 3, 1, read(0)).asked(), at(1000, 3, 3, failed())} {
			l := newLoop(t, with(simple(depth(10, 0)), func(p *api.Plan) { p.Cool = cool }))
			tell(t, l, need)
			for _, now := range []int{1000, 1000 + cool/2, 1000 + cool - 1} {
				if now >= 1000+cool {
					continue
				}
				// None is made, and of more than one only one stays.
				tell(t, l, at(now, 0, 0, read(0)), at(now, 1, 1, read(0)), at(now, 2, 1, read(0)), at(now, 50, 1, read(0)))
			}
			tell(t, l, at(1000+cool, 0, 0, read(0)), at(1000+cool, 1, 0, read(0)), at(1000+cool, 50, 0, read(0)), at(2000000, 1, 0, read(0)))
		}
	}
}

// At first the last need is at 0.
func TestP22CoolAtFirst(t *testing.T) {
	tell(t, newLoop(t, simple(depth(10, 0))),
		at(0, 0, 0, read(0)), at(0, 3, 1, read(0)), at(5, 1, 1, read(0)), at(5, 0, 0, read(0)), at(6, 1, 0, read(0)), at(6, 3, 0, read(0)))
	tell(t, newLoop(t, simple(depth(10, 0))), at(5, 3, 1, read(0)))
	tell(t, newLoop(t, simple(depth(10, 0))), at(6, 3, 0, read(0)))
	tell(t, newLoop(t, simple(depth(10, 0))), at(clock, 3, 0, read(0)))
}

// What waits makes a need only above Active.
func TestP22Active(t *testing.T) {
	for _, tr := range []api.Trigger{depth(10, 25), lag(10, 25)} {
		// Pods are wanted, but nothing is kept in mind.
		tell(t, newLoop(t, simple(tr)), at(1000, 0, 1, read(10)), at(1001, 1, 0, read(0)))
		tell(t, newLoop(t, simple(tr)), at(1000, 3, 1, read(0)).asked(), at(1001, 3, 1, read(0)), at(1006, 3, 0, read(0)))
	}
	tell(t, newLoop(t, simple(depth(10, 25))), at(1000, 0, 3, read(25)), at(1001, 3, 0, read(0)))
	tell(t, newLoop(t, simple(lag(10, 25))), at(1000, 0, 3, read(20, 3, 2)), at(1001, 3, 0, read()))
	tell(t, newLoop(t, simple(lag(10, 25))), at(1000, 0, 3, read(20, 3, 3)), at(1001, 3, 1, read()))
	tell(t, newLoop(t, simple(depth(10, 25))), at(1000, 0, 3, read(26)), at(1001, 3, 1, read(0)), at(1005, 3, 1, read(0)), at(1006, 3, 0, read(0)))
	// A span that is on makes one, too, and so does any one of many.
	l := newLoop(t, simple(depth(10, 25), office(t, 2), depth(10, 0)))
	none := read()
	tell(t, l, at(1000, 0, 2, none, none, none).by(9*hour), at(1005, 2, 1, none, none, none), at(1006, 2, 0, none, none, none),
		at(2000, 0, 1, none, none, read(1)), at(2005, 2, 1, none, none, none), at(2006, 2, 0, none, none, none),
		at(3000, 0, 3, read(26), none, none), at(3005, 2, 1, none, none, none), at(3006, 2, 0, none, none, none),
		at(4000, 0, 3, read(25), none, none), at(4001, 2, 0, none, none, none))
}

func TestP22MinAndMax(t *testing.T) {
	l := newLoop(t, with(simple(depth(10, 0)), func(p *api.Plan) { p.Min, p.Max = 3, 5 }))
	tell(t, l,
		at(0, 0, 3, read(0)), at(1, 0, 3, read(25)), at(2, 0, 4, read(35)), at(3, 0, 5, read(50)), at(4, 0, 5, read(51)),
		at(5, 9, 5, read(51)), at(6, 5, 3, read(0)), at(7, 5, 3, read(0)).asked(), at(8, 1, 3, failed()), at(9, 9, 5, failed()),
		at(1000, 5, 3, read(0)), at(2000, 0, 3, read(0)))
	l = newLoop(t, with(simple(depth(10, 0)), func(p *api.Plan) { p.Max = 1 }))
	tell(t, l, at(0, 0, 1, read(999)), at(1, 5, 1, read(0)), at(100, 5, 0, read(0)))
	l = newLoop(t, with(simple(depth(10, 0)), func(p *api.Plan) { p.Min, p.Max = 50, 50 }))
	tell(t, l, at(0, 0, 50, read(0)), at(100, 50, 50, read(math.MaxInt)), at(200, 20, 50, read(0)))
}

// Windows and paces hold what is told.
func TestP22Paces(t *testing.T) {
	l := newLoop(t, with(simple(depth(10, 0)), func(p *api.Plan) { p.Up = api.Pace{Pods: 2, Period: 5} }))
	tell(t, l, at(0, 0, 2, read(90)), at(2, 2, 2, read(90)), at(4, 2, 2, read(90)), at(5, 2, 4, read(90)), at(10, 4, 6, read(90)), at(11, 6, 1, read(0)))
	l = newLoop(t, with(simple(depth(10, 0)), func(p *api.Plan) { p.Down = api.Pace{Pods: 2, Period: 5} }))
	tell(t, l, at(0, 9, 7, read(0)), at(2, 7, 7, read(0)), at(5, 7, 5, read(0)), at(6, 5, 9, read(90)))
	l = newLoop(t, with(simple(depth(10, 0)), func(p *api.Plan) { p.Up.Window = 5 }))
	tell(t, l, at(0, 2, 3, read(30)), at(4, 2, 3, read(90)), at(5, 2, 9, read(90)))
	l = newLoop(t, with(simple(depth(10, 0)), func(p *api.Plan) { p.Down.Window = 5 }))
	tell(t, l, at(0, 9, 5, read(50)), at(4, 9, 5, read(20)), at(5, 9, 2, read(20)))
}

// What windows and paces hold back is still within the bounds.
func TestP22PacesAreWithinTheBounds(t *testing.T) {
	slow := api.Pace{Pods: 1, Period: 100000}
	wait := api.Pace{Window: 100000}
	half := api.Pace{Percent: 50, Period: 10}
	for _, pace := range []api.Pace{slow, wait, half} {
		l := newLoop(t, with(simple(depth(10, 0)), func(p *api.Plan) { p.Min, p.Up, p.Down = 5, pace, pace }))
		tell(t, l, at(0, 0, 5, read(0)), at(1, 2, 5, read(90)), at(2, 50, 9, read(90)), at(3, 50, 9, read(0)))
	}
	// Half of none is none, but there is a need.
	l := newLoop(t, with(simple(depth(10, 0)), func(p *api.Plan) { p.Up = half }))
	tell(t, l, at(0, 0, 1, read(90)), at(1, 1, 2, read(90)), at(2, 0, 1, read(0)).asked(), at(3, 0, 0, read(0)))
}

// What is known as wanted is what is bounded: not 0, where LOW is 1, and
// not more than Max.
func TestP22WantIsBoundedAhead(t *testing.T) {
	l := newLoop(t, with(simple(depth(10, 0)), func(p *api.Plan) { p.Cool, p.Down.Window = 1, 10 }))
	tell(t, l, at(100, 5, 1, read(0)).asked(), at(101, 5, 1, read(0)), at(109, 1, 1, read(0)), at(110, 1, 0, read(0)))
	l = newLoop(t, with(simple(depth(10, 0)), func(p *api.Plan) { p.Down = api.Pace{Percent: 50, Period: 10} }))
	tell(t, l, at(0, 20, 9, read(200)), at(1, 9, 9, read(0)), at(10, 9, 5, read(0)))
	l = newLoop(t, with(simple(depth(10, 0)), func(p *api.Plan) { p.Min, p.Up.Window = 3, 10 }))
	tell(t, l, at(0, 3, 3, read(0)), at(1, 3, 3, read(90)), at(10, 3, 9, read(90)))
}

// What is known as made is what Settle told, not what LOW made of it.
func TestP22MadeIsWhatSettleTold(t *testing.T) {
	l := newLoop(t, with(simple(depth(10, 0)), func(p *api.Plan) { p.Min, p.Up = 5, api.Pace{Pods: 2, Percent: 100, Period: 10} }))
	tell(t, l, at(0, 0, 5, read(90)), at(1, 5, 6, read(90)))
}

// The document's own example: nothing needed for six ticks: zero.
func TestP22Example(t *testing.T) {
	l := newLoop(t, simple(depth(10, 0)))
	tell(t, l, at(10, 0, 1, read(1)))
	for now := 11; now < 16; now++ {
		tell(t, l, at(now, 1, 1, read(0)))
	}
	tell(t, l, at(16, 1, 0, read(0)))
}
