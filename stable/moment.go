package stable

// moment is a time, and so many pods as were wanted, or made, then.
type moment struct{ at, pods int }

// above is what is left of a list when all up to a time is gone.
func above(list []moment, at int) []moment {
	first := 0
	for first < len(list) && list[first].at <= at {
		first++
	}
	return list[first:]
}

// follow lays a moment behind a list, of which those at the end that it
// stands for are gone.
func follow(list []moment, m moment, standsFor func(old int) bool) []moment {
	end := len(list)
	for end > 0 && standsFor(list[end-1].pods) {
		end--
	}
	return append(list[:end], m)
}

// tally is by how many pods there were more, or fewer, within a period.
// The sum is kept beside the moments, so that a call need not go through
// all of a long period.
type tally struct {
	moments []moment
	sum     int
}

func (t *tally) add(now, pods int) {
	if pods == 0 {
		return
	}
	t.sum += pods
	// One moment a time is enough, however often it settles then.
	if end := len(t.moments) - 1; end >= 0 && t.moments[end].at == now {
		t.moments[end].pods += pods
		return
	}
	t.moments = append(t.moments, moment{now, pods})
}

func (t *tally) forget(at int) {
	left := above(t.moments, at)
	for _, m := range t.moments[:len(t.moments)-len(left)] {
		t.sum -= m.pods
	}
	t.moments = left
}
