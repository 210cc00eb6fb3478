package fleet

import (
	"slices"

	"tidewheel/api"
)

// stays tells the pods that are there for good: one that is SDraining is
// no longer scaled, and goes by its Load alone.
func stays(p api.Pod) bool {
	return p.State != api.SDraining
}

// goesAhead is the order in which pods go. The states stand in it by their
// numbers, and a pod that isn't SReady yet has no Load.
func goesAhead(p, q api.Pod) bool {
	if p.State != q.State {
		return p.State < q.State
	}
	if p.Load != q.Load {
		return p.Load < q.Load
	}
	return p.Id > q.Id
}

// isGivenAhead is the order in which pods are given things to do.
func isGivenAhead(p, q api.Pod) bool {
	if p.Load != q.Load {
		return p.Load < q.Load
	}
	return p.Id < q.Id
}

// choose tells the place of the pod that is ahead of all others that may
// be chosen, or -1, if none may.
func (f *Fleet) choose(may func(api.Pod) bool, ahead func(p, q api.Pod) bool) int {
	best := -1
	for i, p := range f.pods {
		if may(p) && (best < 0 || ahead(p, f.pods[best])) {
			best = i
		}
	}
	return best
}

// find tells the place of the pod with that number, or -1.
func (f *Fleet) find(id int) int {
	return slices.IndexFunc(f.pods, func(p api.Pod) bool { return p.Id == id })
}

func (f *Fleet) advance(id, from, to int) api.Errno {
	i := f.find(id)
	if i < 0 {
		return api.ErrNone
	}
	if f.pods[i].State != from {
		return api.ErrState
	}
	f.pods[i].State = to
	return api.OK
}

// letGo has a pod go at once, or, if it has things to do, behind them.
func (f *Fleet) letGo(i int) {
	if f.pods[i].Load > 0 {
		f.pods[i].State = api.SDraining
		return
	}
	f.remove(i)
}

func (f *Fleet) remove(i int) {
	f.pods = slices.Delete(f.pods, i, i+1)
}
