package world

import "tidewheel/api"

// maxTick is how many ticks may go by at once.
const maxTick = 1000

// trigger is what a world has of a trigger of its plan: what it reads, and
// whether it fails.
type trigger struct {
	kind  int
	fails bool
}

func triggersOf(p api.Plan) []trigger {
	list := make([]trigger, len(p.Triggers))
	for i, t := range p.Triggers {
		list[i].kind = t.Kind
	}
	return list
}

func (w *World) fail(number, n int) api.Errno {
	if number < 0 || number >= len(w.triggers) {
		return api.ErrNone
	}
	if n != 0 && n != 1 {
		return api.ErrArg
	}
	w.triggers[number].fails = n == 1
	return api.OK
}

func (w *World) tick(n int) api.Errno {
	if n < 1 || n > maxTick || w.now+n > api.MaxClock {
		return api.ErrArg
	}
	for range n {
		w.now++
		// It can tell no error: the clock is within the buffer's bounds.
		w.buffer.Late(w.now)
		if w.loop.Due(w.now) {
			w.scale()
		}
		w.handOn()
	}
	return api.OK
}

// scale has the loop look. Neither that nor the fleet can tell an error:
// the clock does not go back, there is one reading a trigger, and both
// have the same bounds of how many pods there may be.
func (w *World) scale() {
	w.target, _ = w.loop.Look(w.now, w.second(), w.fleet.Count(), w.readings(), w.isBusy())
	w.fleet.Scale(w.target)
}

// second is the clock's time. It stops at MaxTime, which the clock may go
// beyond; it is never below -MaxTime, since no clock begins there.
func (w *World) second() int {
	return min(w.sec+w.now, api.MaxTime)
}

func (w *World) isBusy() bool {
	waiting, running := w.buffer.Count()
	return waiting > 0 || running > 0
}

func (w *World) readings() []api.Reading {
	list := make([]api.Reading, len(w.triggers))
	for i, t := range w.triggers {
		list[i] = api.Reading{Failed: t.fails, Lags: w.lags(t.kind)}
	}
	return list
}

func (w *World) lags(kind int) []int {
	switch kind {
	case api.KLag:
		return w.topic.Lags()
	case api.KDepth:
		// It can tell no error: the clock is within the queue's bounds.
		depth, _ := w.queue.Depth(w.now)
		return []int{depth}
	}
	return nil
}
