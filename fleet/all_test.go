package fleet

import (
	"math"
	"math/rand/v2"
	"slices"
	"testing"

	"tidewheel/api"
)

// model says P17 and P18 a second time: every pod that was ever made, at
// its number less 1, its State 0, when it is gone.
type model struct {
	most int
	pods []api.Pod
}

func newModel(most int) *model {
	if most < 1 {
		most = 1
	}
	if most > 100 {
		most = 100
	}
	return &model{most: most}
}

func (m *model) all() []api.Pod {
	var all []api.Pod
	for _, p := range m.pods {
		if p.State != 0 {
			all = append(all, p)
		}
	}
	return all
}

func (m *model) count() int {
	n := 0
	for _, p := range m.all() {
		if p.State <= 3 {
			n++
		}
	}
	return n
}

func (m *model) scale(n int) api.Errno {
	if n < 0 || n > 50 {
		return api.ErrArg
	}
	for m.count() < n {
		m.pods = append(m.pods, api.Pod{Id: len(m.pods) + 1, State: 1})
	}
	for m.count() > n {
		m.drop()
	}
	return api.OK
}

// drop looks for a pod in each way in turn, by numbers that fall.
func (m *model) drop() {
	for _, state := range []int{1, 2, 3} {
		for load := 0; load <= 100; load++ {
			for i := len(m.pods) - 1; i >= 0; i-- {
				if m.pods[i].State != state || m.pods[i].Load != load {
					continue
				}
				m.pods[i].State = 4
				m.sweep(i)
				return
			}
		}
	}
}

// sweep has a pod that is SDraining, and does nothing, be gone.
func (m *model) sweep(i int) {
	if m.pods[i].State == 4 && m.pods[i].Load == 0 {
		m.pods[i].State = 0
	}
}

func (m *model) has(id int) bool {
	return id >= 1 && id <= len(m.pods) && m.pods[id-1].State != 0
}

func (m *model) step(id, from int) api.Errno {
	if !m.has(id) {
		return api.ErrNone
	}
	if m.pods[id-1].State != from {
		return api.ErrState
	}
	m.pods[id-1].State++
	return api.OK
}

func (m *model) crash(id int) (int, api.Errno) {
	if !m.has(id) {
		return 0, api.ErrNone
	}
	m.pods[id-1].State = 0
	return m.pods[id-1].Load, api.OK
}

func (m *model) give() (int, api.Errno) {
	for load := range m.most {
		for i, p := range m.pods {
			if p.State == 3 && p.Load == load {
				m.pods[i].Load++
				return i + 1, api.OK
			}
		}
	}
	return 0, api.ErrNone
}

func (m *model) done(id int) api.Errno {
	if !m.has(id) {
		return api.ErrNone
	}
	if m.pods[id-1].Load < 1 {
		return api.ErrState
	}
	m.pods[id-1].Load--
	m.sweep(id - 1)
	return api.OK
}

// kinds of calls that both makes.
const kinds = 6

// both makes one call of a fleet and of its model, by its kind, and holds
// the fleet against the model; n is what the call is given.
func both(t testing.TB, f *Fleet, m *model, kind, n int) {
	t.Helper()
	switch kind {
	case 0:
		wantScale(t, f, n, m.scale(n))
	case 1:
		wantStart(t, f, n, m.step(n, 1))
	case 2:
		wantReady(t, f, n, m.step(n, 2))
	case 3:
		load, e := m.crash(n)
		wantCrash(t, f, n, load, e)
	case 4:
		id, e := m.give()
		wantGive(t, f, id, e)
	case 5:
		wantDone(t, f, n, m.done(n))
	}
	wantAll(t, f, m.all()...)
	if t.Failed() {
		t.Fatalf("after call %d of %d: %v", kind, n, m.all())
	}
}

// anyPod is mostly the number of a pod that is there.
func anyPod(r *rand.Rand, m *model) int {
	all := m.all()
	if len(all) == 0 || r.IntN(12) == 0 {
		return r.IntN(len(m.pods)+3) - 1
	}
	return all[r.IntN(len(all))].Id
}

// The weights of kinds are such that pods come to have something to do.
func TestP17P18RandomCalls(t *testing.T) {
	weights := []int{0, 1, 1, 1, 2, 2, 2, 3, 4, 4, 4, 4, 4, 5, 5, 5}
	r := rand.New(rand.NewPCG(17, 18))
	for range 300 {
		most, size := r.IntN(6)-1, 1+r.IntN(10)
		f, m := New(most), newModel(most)
		for range 300 {
			kind := weights[r.IntN(len(weights))]
			if kind == 0 {
				both(t, f, m, kind, r.IntN(size+3)-1)
			} else {
				both(t, f, m, kind, anyPod(r, m))
			}
		}
	}
}

// Great fleets: up to 50 pods that aren't SDraining, and more that are.
func TestP17P18RandomGreatFleets(t *testing.T) {
	r := rand.New(rand.NewPCG(17, 19))
	for range 20 {
		most := 1 + r.IntN(120)
		f, m := New(most), newModel(most)
		for range 40 {
			both(t, f, m, 0, r.IntN(53)-1)
			for _, p := range m.all() {
				both(t, f, m, 1+r.IntN(2), p.Id)
				both(t, f, m, 4, 0)
			}
			for range r.IntN(100) {
				both(t, f, m, 5, anyPod(r, m))
			}
		}
	}
}

// A panic at any of these ends the test; the model tells what is changed.
func TestP1P2AnswersWhateverItIsGiven(t *testing.T) {
	numbers := []int{math.MinInt, math.MaxInt, -1 << 40, -100, -1, 0, 1, 2, 3, 4, 5, 6, 49, 50, 51, 99, 100, 101, 1 << 40}
	for _, most := range numbers {
		for kind := range kinds {
			for _, n := range numbers {
				f, m := New(most), newModel(most)
				both(t, f, m, kind, n)
				both(t, f, m, 0, 5)
				for id := range 4 {
					both(t, f, m, 1, id+1)
					both(t, f, m, 2, id)
				}
				both(t, f, m, 4, 0)
				both(t, f, m, 4, 0)
				both(t, f, m, 0, 1)
				both(t, f, m, 0, 3)
				both(t, f, m, kind, n)
			}
		}
	}
}

// A call that tells an error changes nothing.
func TestP2ErrorsChangeNothing(t *testing.T) {
	f := newFleet(t, 2, 2, 1, 2, 2)
	wantScale(t, f, 3, api.OK)
	wantDone(t, f, 2, api.OK)
	wantScale(t, f, 4, api.OK)
	want := []api.Pod{ready(1, 2), ready(3, 2), ready(4, 2), pending(5)}
	for range 3 {
		wantScale(t, f, -1, api.ErrArg)
		wantScale(t, f, 51, api.ErrArg)
		wantGive(t, f, 0, api.ErrNone)
		wantReady(t, f, 5, api.ErrState)
		wantDone(t, f, 5, api.ErrState)
		wantCrash(t, f, 2, 0, api.ErrNone)
		wantAll(t, f, want...)
	}
	wantScale(t, f, 5, api.OK)
	wantAll(t, f, append(want, pending(6))...)
}

// A fleet that New did not make answers, too.
func TestP1ZeroFleet(t *testing.T) {
	var f Fleet
	wantAll(t, &f)
	wantGive(t, &f, 0, api.ErrNone)
	wantScale(t, &f, 1, api.OK)
	makeReady(t, &f, 1)
	wantDone(t, &f, 1, api.ErrState)
	wantCrash(t, &f, 1, 0, api.OK)
}

// What All answered is the caller's: writing to it, or to the room behind
// it, is not seen by the fleet or by another answer, nor the other way.
func TestP2AllIsNewMemory(t *testing.T) {
	for n := 1; n <= 50; n++ {
		f := New(2)
		wantScale(t, f, n, api.OK)
		makeReady(t, f, 1)
		wantGive(t, f, 1, api.OK)
		want := []api.Pod{ready(1, 1)}
		for id := 2; id <= n; id++ {
			want = append(want, pending(id))
		}
		a, b := f.All(), f.All()
		for i := range a[:cap(a)] {
			a[:cap(a)][i] = draining(-7, -7)
		}
		if !slices.Equal(b, want) {
			t.Errorf("another answer is %v, not %v", b, want)
		}
		wantAll(t, f, want...)
		wantCrash(t, f, 1, 1, api.OK)
		if !slices.Equal(b, want) {
			t.Errorf("the fleet's calls changed an answer: %v, not %v", b, want)
		}
		wantAll(t, f, want[1:]...)
	}
}

// Pods that are gone leave room behind those that are there: what is made
// there must not be seen in an earlier answer, nor the other way.
func TestP2AllAfterPodsWent(t *testing.T) {
	f := New(1)
	wantScale(t, f, 4, api.OK)
	for n := 3; n >= 0; n-- {
		wantScale(t, f, n, api.OK)
		a := f.All()
		for i := range a[:cap(a)] {
			a[:cap(a)][i] = draining(-7, -7)
		}
		if f.Count() != n {
			t.Errorf("Count() = %d, not %d", f.Count(), n)
		}
	}
	wantScale(t, f, 2, api.OK)
	wantAll(t, f, pending(5), pending(6))
}

func TestP2FleetsShareNothing(t *testing.T) {
	f, g := newFleet(t, 1, 0, 0), newFleet(t, 2, 1, 0)
	wantGive(t, f, 1, api.OK)
	wantScale(t, f, 3, api.OK)
	wantCrash(t, f, 2, 0, api.OK)
	wantAll(t, g, ready(1, 1), ready(2, 0))
	wantGive(t, g, 2, api.OK)
	wantAll(t, f, ready(1, 1), pending(3))
	wantAll(t, New(1))
}

func FuzzP17P18(f *testing.F) {
	f.Add(2, []byte{0, 4, 1, 1, 1, 2, 1, 3, 2, 1, 2, 2, 4, 0, 4, 0, 4, 0, 0, 2, 0, 1, 5, 2, 3, 1})
	f.Add(-1, []byte{0, 50, 0, 51, 0, 0, 0, 255, 1, 50, 2, 50})
	f.Add(101, []byte{0, 1, 1, 1, 2, 1, 4, 0, 4, 0, 0, 0, 0, 3, 5, 1, 5, 1, 5, 1})
	f.Fuzz(func(t *testing.T, most int, calls []byte) {
		fleet, m := New(most), newModel(most)
		for ; len(calls) >= 2; calls = calls[2:] {
			both(t, fleet, m, int(calls[0])%kinds, int(int8(calls[1])))
		}
	})
}
