package loop

import (
	"tidewheel/api"
	"tidewheel/need"
)

// isTime tells the times at which the loop may look. One below 0 is below
// last, too, which begins at 0.
func (l *Loop) isTime(now int) bool {
	return now >= l.last && now <= api.MaxClock
}

func isSecond(sec int) bool {
	return sec >= -api.MaxTime && sec <= api.MaxTime
}

// mayBe tells the numbers of pods that there may be.
func mayBe(pods int) bool {
	return pods >= 0 && pods <= api.MaxPods
}

// countFails is handed one reading a trigger. A span reads nothing, and so
// never fails.
func (l *Loop) countFails(r []api.Reading) {
	for i, t := range l.plan.Triggers {
		if r[i].Failed && t.Kind != api.KSpan {
			l.fails[i]++
		} else {
			l.fails[i] = 0
		}
	}
}

// ask tells the most pods that one of the triggers wants, and whether one
// of them makes a need. Their failures have been counted.
func (l *Loop) ask(sec, have int, r []api.Reading) (int, bool) {
	want, isNeed := 0, false
	for i := range l.plan.Triggers {
		one := l.askOne(i, sec, have, r[i])
		want = max(want, one.Pods)
		isNeed = isNeed || one.Active
	}
	return want, isNeed
}

// askOne asks need.Of and need.Want only of a trigger that did not fail.
// Neither can tell an error then: the plan has been checked, and so have
// sec and have.
func (l *Loop) askOne(trigger, sec, have int, r api.Reading) api.Need {
	if l.fails[trigger] > 0 {
		// What it would have told is not known: there may be a need.
		return api.Need{Pods: l.instead(trigger, have), Active: true}
	}
	t := l.plan.Triggers[trigger]
	n, _ := need.Of(t, r, sec, l.plan.Shift)
	if t.Kind != api.KSpan {
		n.Pods, _ = need.Want(have, l.plan.Tolerance, t, r)
	}
	return n
}

// instead is how many pods are wanted in place of what a trigger that
// failed would have told.
func (l *Loop) instead(trigger, have int) int {
	if l.plan.After != 0 && l.fails[trigger] >= l.plan.After {
		return l.plan.Back
	}
	return have
}

// low is how many pods there shall be at least. When a need is over the
// last pod stays for a while, but none is made.
func (l *Loop) low(now, have int, isNeed bool) int {
	least := 0
	if isNeed {
		least = 1
	} else if now-l.needed < l.plan.Cool {
		least = min(have, 1)
	}
	return max(l.plan.Min, least)
}
