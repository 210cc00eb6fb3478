package loop

import (
	"math"
	"math/rand/v2"
	"slices"
	"testing"

	"tidewheel/api"
	"tidewheel/need"
	"tidewheel/stable"
)

// model says P21 and P22 a second time: it keeps all Looks that answered
// OK, and works out anew from these whatever it is asked.
type model struct {
	plan   api.Plan
	past   []seen
	paces  *stable.Stable
	pauses []int
}

// seen is a Look: which of its triggers failed, and whether it was a need.
type seen struct {
	now    int
	failed []bool
	need   bool
}

func newModel(p api.Plan) *model {
	return &model{plan: p, paces: stable.New(p.Up, p.Down), pauses: []int{-1}}
}

func (m *model) due(now int) bool {
	if len(m.past) == 0 {
		return true
	}
	// As a float a difference does not wrap round.
	return float64(now)-float64(m.past[len(m.past)-1].now) >= float64(m.plan.Poll)
}

func (m *model) fails(trigger int) int {
	if trigger < 0 || trigger >= len(m.plan.Triggers) {
		return 0
	}
	count := 0
	for _, s := range m.past {
		count++
		if !s.failed[trigger] {
			count = 0
		}
	}
	return count
}

func (m *model) lastNeed() int {
	last := 0
	for _, s := range m.past {
		if s.need {
			last = s.now
		}
	}
	return last
}

func (m *model) isWrong(x look) bool {
	for _, s := range m.past {
		if x.now < s.now {
			return true
		}
	}
	return x.now < 0 || x.now > clock || x.sec < -far || x.sec > far || x.have < 0 || x.have > 50 || len(x.r) != len(m.plan.Triggers)
}

// wants tells what a trigger wants, and whether it makes a need; the Look
// stands in the past already.
func (m *model) wants(trigger int, x look) (int, bool) {
	t, r := m.plan.Triggers[trigger], x.r[trigger]
	n, e := need.Of(t, r, x.sec, m.plan.Shift)
	if t.Kind == api.KSpan {
		return n.Pods, n.Active
	}
	pods, f := need.Want(x.have, m.plan.Tolerance, t, r)
	if e == api.OK && f == api.OK {
		return pods, n.Active
	}
	if m.plan.After > 0 && m.fails(trigger) >= m.plan.After {
		return m.plan.Back, true
	}
	return x.have, true
}

func (m *model) low(x look, isNeed bool) int {
	low := m.plan.Min
	if low > 0 {
		return low
	}
	if isNeed || x.have > 0 && x.now < m.lastNeed()+m.plan.Cool {
		return 1
	}
	return 0
}

func (m *model) look(x look) (int, api.Errno) {
	if m.isWrong(x) {
		return 0, api.ErrArg
	}
	s := seen{now: x.now}
	for i, r := range x.r {
		s.failed = append(s.failed, r.Failed && m.plan.Triggers[i].Kind != api.KSpan)
	}
	m.past = append(m.past, s)
	if pause := m.pauses[len(m.pauses)-1]; pause >= 0 {
		return pause, api.OK
	}
	wants, isNeed := []int{0}, x.busy
	for i := range x.r {
		n, active := m.wants(i, x)
		wants = append(wants, n)
		isNeed = isNeed || active
	}
	m.past[len(m.past)-1].need = isNeed
	low := m.low(x, isNeed)
	n, e := m.paces.Settle(x.now, x.have, min(m.plan.Max, max(low, slices.Max(wants))))
	return min(m.plan.Max, max(low, n)), e
}

func (m *model) pause(n int) api.Errno {
	if n < -1 || n > 50 {
		return api.ErrArg
	}
	m.pauses = append(m.pauses, n)
	return api.OK
}

// readings copies what is handed in, the room behind each list included.
func readings(r []api.Reading) []api.Reading {
	all := slices.Clone(r[:cap(r)])
	for i := range all {
		all[i].Lags = slices.Clone(all[i].Lags[:cap(all[i].Lags)])
	}
	return all
}

func sameReading(a, b api.Reading) bool {
	return a.Failed == b.Failed && slices.Equal(a.Lags[:cap(a.Lags)], b.Lags)
}

// both looks with a loop and with its model, and holds the loop against
// the model, and what it was handed against what that was. It answers what
// was told.
func both(t testing.TB, l *Loop, m *model, x look) int {
	t.Helper()
	before := readings(x.r)
	want, wantE := m.look(x)
	n, e := l.Look(x.now, x.sec, x.have, x.r, x.busy)
	if n != want || e != wantE {
		t.Fatalf("Look(%+v) = %d, %d, not %d, %d: %+v", x, n, e, want, wantE, m)
	}
	if !slices.EqualFunc(x.r[:cap(x.r)], before, sameReading) {
		t.Fatalf("%v was %v", x.r, before)
	}
	agree(t, l, m, x.now)
	return n
}

func bothPause(t testing.TB, l *Loop, m *model, n int) {
	t.Helper()
	want := m.pause(n)
	if e := l.Pause(n); e != want {
		t.Fatalf("Pause(%d) = %d, not %d", n, e, want)
	}
	agree(t, l, m, n)
}

// agree asks what changes nothing.
func agree(t testing.TB, l *Loop, m *model, now int) {
	t.Helper()
	for trigger := -1; trigger <= 5; trigger++ {
		if n, want := l.Fails(trigger), m.fails(trigger); n != want {
			t.Fatalf("Fails(%d) = %d, not %d: %+v", trigger, n, want, m)
		}
	}
	for _, at := range []int{now, now + m.plan.Poll - 1, now + m.plan.Poll, math.MinInt, math.MaxInt} {
		if due, want := l.Due(at), m.due(at); due != want {
			t.Fatalf("Due(%d) = %t: %+v", at, due, m)
		}
	}
}

func randomPace(r *rand.Rand) api.Pace {
	if r.IntN(3) == 0 {
		return api.Pace{}
	}
	return api.Pace{Window: r.IntN(12), Pods: r.IntN(4), Percent: r.IntN(3) * r.IntN(80), Period: r.IntN(12)}
}

func randomPlan(t testing.TB, r *rand.Rand) api.Plan {
	p := api.Plan{
		Name: "p", Min: max(0, r.IntN(8)-4), Max: 4 + r.IntN(20), Poll: 1 + r.IntN(4), Cool: 1 + r.IntN(12),
		Tolerance: r.IntN(2) * r.IntN(600), Back: r.IntN(30), After: r.IntN(4), Shift: (r.IntN(3) - 1) * 90,
		Up: randomPace(r), Down: randomPace(r),
	}
	for range r.IntN(6) {
		target, active := 1+r.IntN(20), r.IntN(2)*r.IntN(60)
		p.Triggers = append(p.Triggers, []api.Trigger{lag(target, active), depth(target, active), office(t, 1+r.IntN(9))}[r.IntN(3)])
	}
	return p
}

// randomReading has room behind its list.
func randomReading(r *rand.Rand) api.Reading {
	lags := make([]int, r.IntN(5), 8)
	for i := range lags {
		lags[i] = max(0, r.IntN(90)-40)
	}
	if r.IntN(30) == 0 && len(lags) > 0 {
		lags[0] = []int{math.MinInt, -1, api.Most, math.MaxInt}[r.IntN(4)]
	}
	return api.Reading{Failed: r.IntN(4) == 0, Lags: lags}
}

// quiet has nothing that waits.
func quiet(triggers int) []api.Reading {
	return make([]api.Reading, triggers, triggers+2)
}

func randomLook(r *rand.Rand, now, have, triggers int) look {
	x := look{now: now, sec: (r.IntN(48) - 24) * hour, have: have, busy: r.IntN(8) == 0, r: quiet(triggers)}
	if r.IntN(2) == 0 {
		for i := range x.r {
			x.r[i] = randomReading(r)
		}
	}
	return x
}

// spoilt is a look of which one thing is out of its bounds, or may be.
func spoilt(r *rand.Rand, x look) look {
	switch r.IntN(5) {
	case 0:
		x.now -= 1 + r.IntN(3)
	case 1:
		x.now = clock + 1
	case 2:
		x.sec = []int{-far - 1, far + 1, math.MinInt, math.MaxInt}[r.IntN(4)]
	case 3:
		x.have = []int{-1, 51, math.MinInt, math.MaxInt}[r.IntN(4)]
	case 4:
		x.r = append(x.r, api.Reading{Failed: true})
	}
	return x
}

// Pods come mostly as they are told, so that paces and windows are run into.
func TestP21P22RandomLooks(t *testing.T) {
	r := rand.New(rand.NewPCG(21, 22))
	for range 3000 {
		p := randomPlan(t, r)
		l, m := newLoop(t, p), newModel(p)
		now, have := r.IntN(20), r.IntN(12)
		for range 40 {
			x := randomLook(r, now, have, len(p.Triggers))
			if r.IntN(8) == 0 {
				both(t, l, m, spoilt(r, x))
			}
			if r.IntN(12) == 0 {
				bothPause(t, l, m, r.IntN(54)-2)
			} else if r.IntN(4) == 0 {
				bothPause(t, l, m, -1)
			}
			have = both(t, l, m, x)
			if r.IntN(5) == 0 {
				have = r.IntN(51)
			}
			now += r.IntN(2) * r.IntN(5)
		}
	}
}

// All runs of six of these looks, a tick or none behind one another.
func TestP21P22AllShortRuns(t *testing.T) {
	pace := api.Pace{Window: 2, Pods: 1, Percent: 50, Period: 3}
	p := api.Plan{Name: "p", Max: 5, Poll: 2, Cool: 2, Back: 2, After: 2, Up: pace, Down: pace, Triggers: []api.Trigger{depth(10, 5)}}
	for _, p := range []api.Plan{p, with(p, func(p *api.Plan) { p.Min, p.Up = 2, api.Pace{} }), with(p, func(p *api.Plan) { p.Down = api.Pace{} })} {
		for i := range 7 * 7 * 7 * 7 * 7 * 7 {
			l, m, now := newLoop(t, p), newModel(p), 1
			for range 6 {
				x := at(now, 0, 0, read(0))
				switch i % 7 {
				case 0:
					x.have, now = 3, now+1
				case 1:
					x.busy = true
				case 2:
					x.r[0] = failed()
				case 3:
					x.r[0], x.have, now = read(48), 2, now+1
				case 4:
					x.r[0], x.have = read(4), 4
				case 5:
					bothPause(t, l, m, 7)
				case 6:
					bothPause(t, l, m, -1)
					x.have = 7
				}
				both(t, l, m, x)
				i /= 7
			}
		}
	}
}

// Within bounds: never more pods than the plan says, never fewer, and none
// only where there is no need.
func TestP22WithinBounds(t *testing.T) {
	r := rand.New(rand.NewPCG(22, 22))
	for range 1000 {
		p := randomPlan(t, r)
		l := newLoop(t, p)
		for now := range 60 {
			x := randomLook(r, now, r.IntN(51), len(p.Triggers))
			n, e := l.Look(x.now, x.sec, x.have, x.r, x.busy)
			if e != api.OK || n < p.Min || n > p.Max {
				t.Fatalf("Look(%+v) = %d, %d: %+v", x, n, e, p)
			}
			if n == 0 && (x.busy || l.Fails(0)+l.Fails(1)+l.Fails(2)+l.Fails(3)+l.Fails(4) > 0) {
				t.Fatalf("Look(%+v) = 0, but there is a need: %+v", x, p)
			}
		}
	}
}

// A panic at any of these ends the test; the model tells what is changed.
func TestP1P2AnswersWhateverItIsGiven(t *testing.T) {
	numbers := []int{math.MinInt, math.MinInt + 1, -far - 1, -far, -2, -1, 0, 1, 5, 50, 51, far, far + 1, clock, clock + 1, math.MaxInt - 1, math.MaxInt}
	p := with(simple(lag(1, 0), depth(10, 5), office(t, 3)), func(p *api.Plan) { p.Back, p.After, p.Up.Window = 4, 1, 3 })
	for _, now := range numbers {
		for _, sec := range numbers {
			for _, have := range numbers {
				l, m := newLoop(t, p), newModel(p)
				for _, n := range numbers {
					some := []api.Reading{read(n, n, 3), read(n), read(n)}
					both(t, l, m, look{now: now, sec: sec, have: have, r: some})
					both(t, l, m, look{now: now, sec: sec, have: have, r: some[:2]})
					bothPause(t, l, m, n)
				}
			}
		}
	}
	for _, lists := range [][]api.Reading{nil, {}, {{}}, {{Failed: true}, {}, {Failed: true}, {}}, make([]api.Reading, 1000)} {
		both(t, newLoop(t, p), newModel(p), at(1, 2, 0, lists...))
	}
	both(t, newLoop(t, p), newModel(p), at(1, 2, 0, read(make([]int, 100000)...), read(), read()))
}

// New answers whatever plan it is given.
func TestP1NewAnswersWhateverItIsGiven(t *testing.T) {
	numbers := []int{math.MinInt, -901, -1, 0, 1, 50, 51, 100, 1000, 1001, 100001, math.MaxInt}
	for _, n := range numbers {
		pace := api.Pace{Window: n, Pods: n, Percent: n, Period: n}
		tr := api.Trigger{Kind: n, Target: n, Active: n, Span: api.Span{Start: api.Cron{Minute: uint64(n)}}}
		for _, p := range []api.Plan{
			{Name: "p", Min: n, Max: n, Poll: n, Cool: n, Tolerance: n, Back: n, After: n, Shift: n, Up: pace, Down: pace, Triggers: []api.Trigger{tr}},
			with(simple(tr, tr), func(p *api.Plan) { p.Up = pace }),
			{Name: string([]byte{255, 0}), Max: n},
			{Name: "p", Max: n, Poll: 1, Cool: 1},
		} {
			if l, e := New(p); (l == nil) == (e == api.OK) {
				t.Errorf("New(%v) = %v, %d", p, l, e)
			}
		}
	}
}

// A loop that New did not make answers, too.
func TestP1ZeroLoop(t *testing.T) {
	var l Loop
	wantDue(t, &l, true, 0, 5)
	wantFails(t, &l)
	tell(t, &l, at(0, 0, 0), at(1, 5, 0).asked())
	refuse(t, &l, at(0, 0, 0), at(1, 0, 0, read()))
	wantPause(t, &l, 3, api.OK)
	tell(t, &l, at(1, 0, 3))
}

// The plan that was handed in is the caller's: it is not changed, and
// writing to its list, or to the room behind it, is not seen by the loop.
func TestP2PlanIsNotKept(t *testing.T) {
	list := []api.Trigger{depth(10, 0), lag(10, 0), depth(1, 1)}
	before := slices.Clone(list)
	l := newLoop(t, simple(list[:2]...))
	m := newLoop(t, simple(list[:2]...))
	tell(t, l, at(100, 0, 3, read(25), read(5)))
	if !slices.Equal(list, before) {
		t.Errorf("%v was %v", list, before)
	}
	for i := range list {
		list[i] = office(t, 9)
	}
	tell(t, l, at(101, 0, 3, read(25), read(5)).by(9*hour), at(102, 7, 7, failed(), read(5)))
	wantFails(t, l, 1, 0)
	tell(t, m, at(1, 0, 3, read(25), read(5)).by(9*hour))
	wantFails(t, m, 0, 0)
}

// Nor are the readings.
func TestP2ReadingsAreNotKept(t *testing.T) {
	l := newLoop(t, with(simple(depth(10, 0)), func(p *api.Plan) { p.Down.Window = 10 }))
	r := []api.Reading{read(70)}
	tell(t, l, at(100, 9, 7, r...))
	r[0].Lags[0] = 20
	tell(t, l, at(101, 9, 7, r...))
	r[0].Failed = true
	wantFails(t, l, 0)
}

func TestP2LoopsShareNothing(t *testing.T) {
	p := with(simple(depth(10, 0)), func(p *api.Plan) { p.Up.Window, p.Down.Window = 100, 100 })
	l, m := newLoop(t, p), newLoop(t, p)
	tell(t, l, at(50, 3, 3, failed()))
	wantPause(t, l, 8, api.OK)
	wantFails(t, m, 0)
	wantDue(t, m, true, 0)
	tell(t, m, at(1, 2, 5, read(50)), at(10, 9, 5, read(20)))
	wantFails(t, l, 1)
	wantDue(t, l, false, 51)
	tell(t, l, at(50, 3, 8, read(30)))
}

func FuzzP21P22(f *testing.F) {
	f.Add(uint64(21), []byte{1, 0, 0, 0, 2, 0, 0, 1, 3, 1, 25, 0, 4, 3, 255, 0, 5, 9, 9, 2, 6, 9, 9, 2, 8, 4, 0, 0, 4, 1, 0, 4})
	f.Add(uint64(22), []byte{0, 60, 0, 0, 0, 0, 0, 255, 9, 5, 50, 8, 1, 5, 50, 12})
	f.Fuzz(func(t *testing.T, seed uint64, calls []byte) {
		p := randomPlan(t, rand.New(rand.NewPCG(seed, 0)))
		l, m, now := newLoop(t, p), newModel(p), 0
		for ; len(calls) >= 4; calls = calls[4:] {
			now += int(int8(calls[0])) / 4
			x := look{now: now, sec: int(calls[0]) * hour, have: int(calls[1]) / 4, r: quiet(len(p.Triggers)), busy: calls[3]&1 != 0}
			for i := range x.r {
				x.r[i] = api.Reading{Failed: calls[3]>>(i+3)&1 != 0, Lags: []int{int(int8(calls[2])), i}}
			}
			if calls[3]&6 == 6 {
				bothPause(t, l, m, int(calls[1])/4-2)
			}
			both(t, l, m, x)
		}
	})
}
