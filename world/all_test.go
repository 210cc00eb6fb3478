package world

import (
	"fmt"
	"math"
	"math/rand/v2"
	"slices"
	"testing"

	"tidewheel/api"
	"tidewheel/loop"
)

// model says P23 and P24 a second time, with all but the loop made anew: a
// pod has the requests that run there, a message comes back at its tick,
// and a partition keeps what came and what was taken.
type model struct {
	plan             api.Plan
	loop             *loop.Loop
	most, sec, clock int
	told             int
	fails            []bool
	came, had        []int
	messages         []api.Message
	lastMessage      int
	pods             []*modelPod
	lastPod          int
	requests         []api.Request
}

type modelPod struct {
	id, state int
	runs      []int
}

func newModel(t testing.TB, p api.Plan, parts, most, sec int) *model {
	t.Helper()
	l, e := loop.New(p)
	if e != api.OK {
		t.Fatal(p, e)
	}
	return &model{
		plan: p, loop: l, most: max(1, most), sec: sec,
		fails: make([]bool, len(p.Triggers)), came: make([]int, parts), had: make([]int, parts),
	}
}

func (m *model) lags() []int {
	lags := []int{}
	for i := range m.came {
		lags = append(lags, m.came[i]-m.had[i])
	}
	return lags
}

func (m *model) tell() string {
	pods, messages, requests := []api.Pod{}, []api.Message{}, []api.Request{}
	for _, p := range m.pods {
		pods = append(pods, api.Pod{Id: p.id, State: p.state, Load: len(p.runs)})
	}
	return fmt.Sprint(m.clock, m.told, pods, append(requests, m.requests...), m.lags(), append(messages, m.messages...))
}

func (m *model) pod(id int) *modelPod {
	for _, p := range m.pods {
		if p.id == id {
			return p
		}
	}
	return nil
}

func (m *model) letGo(id int) {
	m.pods = slices.DeleteFunc(m.pods, func(p *modelPod) bool { return p.id == id })
}

func (m *model) stay() []*modelPod {
	var list []*modelPod
	for _, p := range m.pods {
		if p.state != api.SDraining {
			list = append(list, p)
		}
	}
	return list
}

func (m *model) scale(n int) {
	for len(m.stay()) < n {
		m.lastPod++
		m.pods = append(m.pods, &modelPod{id: m.lastPod, state: api.SPending})
	}
	for len(m.stay()) > n {
		list := m.stay()
		slices.SortFunc(list, func(p, q *modelPod) int {
			return slices.Compare([]int{p.state, len(p.runs), -p.id}, []int{q.state, len(q.runs), -q.id})
		})
		if len(list[0].runs) > 0 {
			list[0].state = api.SDraining
		} else {
			m.letGo(list[0].id)
		}
	}
}

// first tells the request that is next, by looking at all ahead of it.
func (m *model) first() int {
	for i, r := range m.requests {
		free := r.Fate == api.FWaits
		for j, s := range m.requests {
			if s.Source == r.Source && (s.Fate == api.FRuns || s.Fate == api.FWaits && j < i) {
				free = false
			}
		}
		if free {
			return i
		}
	}
	return -1
}

func (m *model) idlest() *modelPod {
	for load := range m.most {
		for _, p := range m.pods {
			if p.state == api.SReady && len(p.runs) == load {
				return p
			}
		}
	}
	return nil
}

func (m *model) handOn() {
	for m.first() >= 0 && m.idlest() != nil {
		i, p := m.first(), m.idlest()
		p.runs = append(p.runs, i+1)
		m.requests[i].Fate, m.requests[i].Pod = api.FRuns, p.id
	}
}

func (m *model) readings() []api.Reading {
	var list []api.Reading
	for i, t := range m.plan.Triggers {
		r := api.Reading{Failed: m.fails[i]}
		switch t.Kind {
		case api.KLag:
			r.Lags = m.lags()
		case api.KDepth:
			r.Lags = []int{0}
			for _, x := range m.messages {
				if !x.Taken {
					r.Lags[0]++
				}
			}
		}
		list = append(list, r)
	}
	return list
}

func (m *model) tick() {
	m.clock++
	for i, x := range m.messages {
		if x.Taken && x.Till == m.clock {
			m.messages[i] = api.Message{Id: x.Id}
		}
	}
	busy := false
	for i, r := range m.requests {
		if r.Fate == api.FWaits && r.Till == m.clock {
			m.requests[i].Fate = api.FLate
		}
		busy = busy || m.requests[i].Fate < api.FDelivered
	}
	if m.loop.Due(m.clock) {
		n, e := m.loop.Look(m.clock, max(-far, min(far, m.sec+m.clock)), len(m.stay()), m.readings(), busy)
		if e != api.OK {
			panic(e)
		}
		m.told = n
		m.scale(n)
	}
	m.handOn()
}

func (m *model) do(x api.Happens) api.Errno {
	switch x.Kind {
	case api.HTick:
		if x.N < 1 || x.N > 1000 || m.clock > clock-x.N {
			return api.ErrArg
		}
		for range x.N {
			m.tick()
		}
		return api.OK
	case api.HMake, api.HTake:
		return m.doTopic(x)
	case api.HPut, api.HLease, api.HAck:
		return m.doQueue(x)
	case api.HFail:
		if x.A < 0 || x.A >= len(m.fails) {
			return api.ErrNone
		}
		if x.N < 0 || x.N > 1 {
			return api.ErrArg
		}
		m.fails[x.A] = x.N == 1
		return api.OK
	case api.HStart, api.HReady, api.HCrash:
		return m.doPod(x)
	case api.HAsk:
		return m.doAsk(x)
	case api.HDone:
		return m.doDone(x)
	case api.HPause:
		return m.loop.Pause(x.N)
	}
	return api.ErrArg
}

func (m *model) doTopic(x api.Happens) api.Errno {
	if x.A < 0 || x.A >= len(m.came) {
		return api.ErrNone
	}
	if x.Kind == api.HMake {
		if x.N < 1 || x.N > 100000 {
			return api.ErrArg
		}
		m.came[x.A] += x.N
		return api.OK
	}
	if x.N < m.had[x.A] || x.N > m.came[x.A] {
		return api.ErrArg
	}
	m.had[x.A] = x.N
	return api.OK
}

func (m *model) doQueue(x api.Happens) api.Errno {
	switch x.Kind {
	case api.HPut:
		if x.N < 1 {
			return api.ErrArg
		}
		if x.N > 200-len(m.messages) {
			return api.ErrFull
		}
		for range x.N {
			m.lastMessage++
			m.messages = append(m.messages, api.Message{Id: m.lastMessage})
		}
		return api.OK
	case api.HLease:
		if x.N < 1 || x.N > 100000 {
			return api.ErrArg
		}
		for i, message := range m.messages {
			if !message.Taken {
				m.messages[i].Taken, m.messages[i].Till = true, m.clock+x.N
				return api.OK
			}
		}
		return api.ErrNone
	}
	for i, message := range m.messages {
		if message.Id == x.N && message.Taken {
			m.messages = slices.Delete(m.messages, i, i+1)
			return api.OK
		}
		if message.Id == x.N {
			return api.ErrState
		}
	}
	return api.ErrNone
}

func (m *model) doPod(x api.Happens) api.Errno {
	p := m.pod(x.N)
	if p == nil {
		return api.ErrNone
	}
	switch {
	case x.Kind == api.HCrash:
		m.letGo(p.id)
		for _, id := range p.runs {
			m.requests[id-1].Fate = api.FFailed
		}
		m.handOn()
	case x.Kind == api.HStart && p.state == api.SPending:
		p.state = api.SStarting
	case x.Kind == api.HReady && p.state == api.SStarting:
		p.state = api.SReady
		m.handOn()
	default:
		return api.ErrState
	}
	return api.OK
}

func (m *model) doAsk(x api.Happens) api.Errno {
	if x.N < 1 || x.N > 100000 {
		return api.ErrArg
	}
	if x.A < 0 || x.A > 5 {
		return api.ErrNone
	}
	all, likewise := 0, 0
	for _, r := range m.requests {
		if r.Fate == api.FWaits {
			all++
			if r.Source == x.A {
				likewise++
			}
		}
	}
	if all == 60 || likewise == 20 || len(m.requests) == 200 {
		return api.ErrFull
	}
	m.requests = append(m.requests, api.Request{Id: len(m.requests) + 1, Source: x.A, Till: m.clock + x.N, Fate: api.FWaits})
	m.handOn()
	return api.OK
}

func (m *model) doDone(x api.Happens) api.Errno {
	if x.N < 1 || x.N > len(m.requests) {
		return api.ErrNone
	}
	for _, p := range m.pods {
		if i := slices.Index(p.runs, x.N); i >= 0 {
			p.runs = slices.Delete(p.runs, i, i+1)
			m.requests[x.N-1].Fate = api.FDelivered
			if len(p.runs) == 0 && p.state == api.SDraining {
				m.letGo(p.id)
			}
			m.handOn()
			return api.OK
		}
	}
	return api.ErrState
}

// both has it happen in a world and in its model, and holds one against
// the other. It answers what was told.
func both(t testing.TB, w *World, m *model, x api.Happens) api.Errno {
	t.Helper()
	before := tell(w)
	want := m.do(x)
	if e := w.Do(x); e != want {
		t.Fatalf("Do(%+v) = %d, not %d: %s", x, e, want, before)
	}
	if got, want := tell(w), m.tell(); got != want {
		t.Fatalf("Do(%+v) made of\n%s\n%s, not\n%s", x, before, got, want)
	}
	return want
}

func randomPace(r *rand.Rand) api.Pace {
	if r.IntN(2) == 0 {
		return api.Pace{}
	}
	return api.Pace{Window: r.IntN(8), Pods: r.IntN(4), Percent: r.IntN(2) * r.IntN(80), Period: r.IntN(8)}
}

func randomPlan(t testing.TB, r *rand.Rand) api.Plan {
	p := api.Plan{
		Name: "p", Min: max(0, r.IntN(8)-5), Max: 3 + r.IntN(7), Poll: 1 + r.IntN(3), Cool: 1 + r.IntN(9),
		Tolerance: r.IntN(2) * r.IntN(600), Back: r.IntN(9), After: r.IntN(4), Shift: (r.IntN(3) - 1) * 90,
		Up: randomPace(r), Down: randomPace(r),
	}
	for range r.IntN(4) {
		target, active := 1+r.IntN(20), r.IntN(2)*r.IntN(60)
		p.Triggers = append(p.Triggers, []api.Trigger{lag(target, active), depth(target, active), office(t, 1+r.IntN(6))}[r.IntN(3)])
	}
	return p
}

// randomHappens is one that mostly may happen: of the pods and requests
// that are there, or nearly.
func randomHappens(r *rand.Rand, w *World) api.Happens {
	pods, requests := w.Pods(), w.Requests()
	pod, request := r.IntN(3), len(requests)-r.IntN(8)
	if len(pods) > 0 && r.IntN(9) > 0 {
		pod = pods[r.IntN(len(pods))].Id
	}
	switch r.IntN(20) {
	case 0:
		return come(r.IntN(4), 1+r.IntN(40))
	case 1:
		return take(r.IntN(4), r.IntN(90))
	case 2:
		return put(1 + r.IntN(9))
	case 3:
		return lease(1 + r.IntN(9))
	case 4:
		return ack(1 + r.IntN(20))
	case 5:
		return fails(r.IntN(4), r.IntN(2))
	case 6, 7, 8:
		return start(pod)
	case 9, 10, 11:
		return ready(pod)
	case 12:
		return crash(pod)
	case 13, 14, 15:
		return ask(r.IntN(6), 1+r.IntN(12))
	case 16, 17:
		return done(request)
	case 18:
		return pause(max(-1, r.IntN(24)-14))
	}
	return tick(1 + r.IntN(3))
}

// spoilt is a happening of which a number may be out of its bounds.
func spoilt(r *rand.Rand, x api.Happens) api.Happens {
	numbers := []int{math.MinInt, -2, -1, 0, 2, 6, 14, 51, 300, 1001, 100001, math.MaxInt}
	n := numbers[r.IntN(len(numbers))]
	switch r.IntN(5) {
	case 0:
		x.Kind = n
	case 1:
		x.A = n
	default:
		x.N = n
	}
	return x
}

func TestP23P24RandomHappenings(t *testing.T) {
	r := rand.New(rand.NewPCG(23, 24))
	for range 600 {
		p, parts, most, sec := randomPlan(t, r), 1+r.IntN(4), r.IntN(4), (r.IntN(40)-20)*hour-20
		w, m := newWorld(t, p, parts, most, sec), newModel(t, p, parts, most, sec)
		for range 120 {
			x := randomHappens(r, w)
			if r.IntN(12) == 0 {
				x = spoilt(r, x)
			}
			both(t, w, m, x)
		}
	}
}

// All runs of six of a list, with nothing asked in between.
func TestP23P24AllShortRuns(t *testing.T) {
	p := with(simple(depth(10, 0)), func(p *api.Plan) { p.Min, p.Poll = 1, 2 })
	allRuns(t, p, tick(1), tick(3), ask(0, 2), ask(1, 4), start(1), ready(1), done(1), crash(1))
	allRuns(t, simple(), put(2), lease(1), lease(3), tick(1), tick(2), ack(1), ack(2))
	p = with(simple(depth(1, 0), lag(2, 0)), func(p *api.Plan) { p.Back, p.After = 5, 2 })
	allRuns(t, p, put(2), lease(2), tick(1), fails(0, 1), fails(0, 0), come(0, 4), take(0, 4))
}

func allRuns(t *testing.T, p api.Plan, list ...api.Happens) {
	t.Helper()
	runs := 1
	for range 6 {
		runs *= len(list)
	}
	for i := range runs {
		w, m := newWorld(t, p, 1, 1, 0), newModel(t, p, 1, 1, 0)
		happens := []api.Happens{}
		for range 6 {
			happens = append(happens, list[i%len(list)])
			i /= len(list)
		}
		for _, x := range happens {
			if e, want := w.Do(x), m.do(x); e != want {
				t.Fatalf("%v: Do(%+v) = %d, not %d", happens, x, e, want)
			}
		}
		if got, want := tell(w), m.tell(); got != want {
			t.Fatalf("%v: %s, not %s", happens, got, want)
		}
	}
}

// A happening of many ticks is as many of one, and what was refused
// leaves no trace, at once or later.
func TestP24RefusedLeavesNoTrace(t *testing.T) {
	r := rand.New(rand.NewPCG(24, 24))
	for range 600 {
		p := randomPlan(t, r)
		w, twin := newWorld(t, p, 3, 2, 0), newWorld(t, p, 3, 2, 0)
		for range 120 {
			x := randomHappens(r, w)
			if r.IntN(3) == 0 {
				x = spoilt(r, x)
			}
			before := tell(w)
			if w.Do(x) != api.OK {
				same(t, "refused", tell(w), before)
				continue
			}
			if x.Kind != api.HTick {
				happen(t, twin, x)
				continue
			}
			for range x.N {
				happen(t, twin, tick(1))
			}
			same(t, "twin", tell(twin), tell(w))
		}
		same(t, "twin", tell(twin), tell(w))
	}
}

// mayBecome tells the fates that a request may have a happening later.
func mayBecome(from, to int) bool {
	switch from {
	case api.FWaits:
		return to == api.FWaits || to == api.FRuns || to == api.FLate
	case api.FRuns:
		return to == api.FRuns || to == api.FDelivered || to == api.FFailed
	}
	return from == to
}

// inOrder holds the requests against those that were there a happening
// ago: in order, once, and late just at their time.
func inOrder(t *testing.T, w *World, before []api.Request) {
	t.Helper()
	running := map[int]int{}
	behind := map[int]bool{}
	for i, r := range w.Requests() {
		if i < len(before) && (!mayBecome(before[i].Fate, r.Fate) || before[i].Pod != 0 && before[i].Pod != r.Pod) {
			t.Fatalf("%+v was %+v", r, before[i])
		}
		if (r.Fate == api.FLate) != (r.Pod == 0 && r.Till <= w.Now()) {
			t.Fatalf("at %d: %+v", w.Now(), r)
		}
		if r.Fate == api.FRuns && behind[r.Source] {
			t.Fatalf("%+v is ahead of those that came first: %+v", r, w.Requests())
		}
		if r.Fate == api.FRuns {
			running[r.Pod]++
		}
		behind[r.Source] = behind[r.Source] || r.Fate <= api.FRuns
	}
	for _, p := range w.Pods() {
		if running[p.Id] != p.Load || p.Load > 0 && p.State < api.SReady {
			t.Fatalf("%+v, but there run %d", p, running[p.Id])
		}
		delete(running, p.Id)
	}
	if len(running) > 0 {
		t.Fatalf("at pods that are gone there run %v", running)
	}
}

func stays(w *World) int {
	count := 0
	for _, p := range w.Pods() {
		if p.State != api.SDraining {
			count++
		}
	}
	return count
}

// The four things that hold always.
func TestP24Always(t *testing.T) {
	r := rand.New(rand.NewPCG(1, 4))
	for range 800 {
		p := with(randomPlan(t, r), func(p *api.Plan) { p.Poll = 1 })
		w := newWorld(t, p, 3, 1+r.IntN(3), 0)
		failing := make([]bool, len(p.Triggers))
		for range 120 {
			x := randomHappens(r, w)
			if x.Kind == api.HPause {
				continue
			}
			before := w.Requests()
			e := w.Do(x)
			inOrder(t, w, before)
			if x.Kind == api.HFail && e == api.OK {
				failing[x.A] = x.N == 1 && p.Triggers[x.A].Kind != api.KSpan
			}
			if x.Kind == api.HTick && (w.Target() < p.Min || w.Target() > p.Max || stays(w) != w.Target()) {
				t.Fatalf("%d pods, %d are to be, by %+v", stays(w), w.Target(), p)
			}
			isOpen := func(r api.Request) bool { return r.Fate <= api.FRuns }
			if x.Kind == api.HTick && w.Target() == 0 && (slices.Contains(failing, true) || slices.ContainsFunc(w.Requests(), isOpen)) {
				t.Fatalf("none, but there is a need: %s", tell(w))
			}
		}
	}
}

// A panic at any of these ends the test; the model tells what is changed.
func TestP1AnswersWhateverItIsGiven(t *testing.T) {
	numbers := []int{math.MinInt, math.MinInt + 1, -far, -2, -1, 0, 1, 2, 3, 5, 6, 50, 51, 200, 201, 1000, 1001, 100000, 100001, clock, clock + 1, math.MaxInt - 1, math.MaxInt}
	p := with(simple(lag(1, 0), depth(10, 5), office(t, 3)), func(p *api.Plan) { p.Back, p.After, p.Up.Window = 4, 1, 3 })
	w, m := newWorld(t, p, 2, 2, 0), newModel(t, p, 2, 2, 0)
	for _, a := range numbers {
		for _, n := range numbers {
			for kind := -1; kind <= 15; kind++ {
				both(t, w, m, api.Happens{Kind: kind, A: a, N: n})
			}
		}
	}
	for _, kind := range numbers {
		both(t, w, m, api.Happens{Kind: kind, N: 1})
	}
}

func TestP1NewAnswersWhateverItIsGiven(t *testing.T) {
	numbers := []int{math.MinInt, -10000000001, -10000000000, -901, -1, 0, 1, 20, 21, 50, 51, 1001, 100001, math.MaxInt}
	for _, n := range numbers {
		pace := api.Pace{Window: n, Pods: n, Percent: n, Period: n}
		tr := api.Trigger{Kind: n, Target: n, Active: n, Span: api.Span{Start: api.Cron{Minute: uint64(n)}}}
		wrong := api.Plan{Name: "p", Min: n, Max: n, Poll: n, Cool: n, Back: n, After: n, Shift: n, Up: pace, Down: pace, Triggers: []api.Trigger{tr}}
		for _, p := range []api.Plan{wrong, simple(tr, tr), {Name: string([]byte{255, 0})}, simple()} {
			for _, parts := range numbers {
				for _, sec := range numbers {
					if w, e := New(p, parts, n, sec); (w == nil) == (e == api.OK) {
						t.Errorf("New(%v, %d, %d, %d) = %v, %d", p, parts, n, sec, w, e)
					}
				}
			}
		}
	}
}

// A world that New did not make answers, too.
func TestP1ZeroWorld(t *testing.T) {
	var w World
	for kind := range 15 {
		for n := -1; n <= 3; n++ {
			for a := -1; a <= 1; a++ {
				w.Do(api.Happens{Kind: kind, A: a, N: n})
				tell(&w)
			}
		}
	}
}

// The plan that was handed in is the caller's: it is not changed, and
// writing to its list, or to the room behind it, is not seen by the world.
func TestP2PlanIsNotKept(t *testing.T) {
	list := []api.Trigger{depth(10, 0), lag(10, 0), depth(1, 1)}
	before := slices.Clone(list)
	w := newWorld(t, simple(list[:2]...), 3, 1, 9*hour)
	happen(t, w, put(25), come(0, 1), tick(1), fails(1, 1), tick(1), fails(1, 0))
	if !slices.Equal(list, before) {
		t.Errorf("%v was %v", list, before)
	}
	for i := range list {
		list[i] = office(t, 9)
	}
	wantTargets(t, w, 3)
	happen(t, w, come(0, 90), come(1, 90), come(2, 90), lease(5))
	wantTargets(t, w, 3)
	refuse(t, w, api.ErrNone, fails(2, 1))
}

// What is answered is the caller's, the room behind it included.
func TestP2AnswersAreNewMemory(t *testing.T) {
	w := open(t, simple(depth(10, 0)), 1, 3)
	happen(t, w, put(7), lease(9), come(1, 8), ask(0, 5), ask(0, 5), ask(0, 5))
	before := tell(w)
	spoil(w.Pods(), api.Pod{Id: 77})
	spoil(w.Requests(), api.Request{Id: 77})
	spoil(w.Lags(), 77)
	spoil(w.Messages(), api.Message{Id: 77})
	same(t, "the world", tell(w), before)
	old := w.Pods()
	happen(t, w, tick(1), crash(1), take(1, 3), put(1))
	same(t, "an earlier answer", old, []api.Pod{{Id: 1, State: 3, Load: 1}, {Id: 2, State: 3}, {Id: 3, State: 3}})
}

func spoil[T any](list []T, with T) {
	list = list[:cap(list)]
	for i := range list {
		list[i] = with
	}
}

func TestP2WorldsShareNothing(t *testing.T) {
	p := simple(depth(10, 0), lag(10, 0))
	a, b := newWorld(t, p, 2, 1, 0), newWorld(t, p, 2, 1, 0)
	before := tell(b)
	happen(t, a, put(50), come(0, 5), ask(0, 5), fails(1, 1), pause(4), tick(3), start(1), ready(1), lease(4))
	same(t, "the other one", tell(b), before)
	wantTargets(t, b, 0, 0)
	happen(t, b, put(15))
	wantTargets(t, b, 2)
	wantPods(t, b, "1:1:0 2:1:0")
	wantPods(t, a, "1:3:1 2:1:0 3:1:0 4:1:0")
}

func FuzzP23P24(f *testing.F) {
	f.Add(uint64(23), []byte{2, 0, 25, 1, 0, 1, 11, 3, 9, 8, 0, 1, 9, 0, 1, 1, 0, 2, 12, 0, 1, 10, 0, 1, 13, 0, 0, 1, 0, 9})
	f.Add(uint64(24), []byte{4, 0, 9, 5, 0, 3, 6, 0, 1, 7, 0, 1, 1, 0, 5, 3, 0, 0, 13, 0, 255, 0, 0, 0, 14, 1, 1})
	f.Fuzz(func(t *testing.T, seed uint64, calls []byte) {
		r := rand.New(rand.NewPCG(seed, 0))
		p, parts, most, sec := randomPlan(t, r), 1+r.IntN(4), r.IntN(4), (r.IntN(40)-20)*hour-20
		w, m := newWorld(t, p, parts, most, sec), newModel(t, p, parts, most, sec)
		for ; len(calls) >= 3; calls = calls[3:] {
			both(t, w, m, api.Happens{Kind: int(calls[0] % 15), A: int(int8(calls[1])), N: int(int8(calls[2]))})
		}
	})
}
