package buffer

import "tidewheel/api"

func waits(r api.Request) bool {
	return r.Fate == api.FWaits
}

// runs asks the fate, not the Pod: that may be any number, 0 too, and is
// kept when the request is over.
func runs(r api.Request) bool {
	return r.Fate == api.FRuns
}

func isTime(now int) bool {
	return now >= 0 && now <= api.MaxClock
}

func (b *Buffer) has(id int) bool {
	return id >= 1 && id <= len(b.requests)
}

func (b *Buffer) count(is func(api.Request) bool) int {
	count := 0
	for _, r := range b.requests {
		if is(r) {
			count++
		}
	}
	return count
}

// hasRoom tells whether one more request of that source may wait.
func (b *Buffer) hasRoom(source int) bool {
	waitsThere := func(r api.Request) bool { return waits(r) && r.Source == source }
	return b.count(waitsThere) < api.MaxRoom && b.count(waits) < api.MaxAll && len(b.requests) < api.MaxItems
}

// mayRun tells the numbers of the requests that may run now, rising: of
// each source of which none runs the first one that waits.
func (b *Buffer) mayRun() []int {
	var barred [api.MaxSource]bool
	for _, r := range b.requests {
		if runs(r) {
			barred[r.Source] = true
		}
	}
	var ids []int
	for _, r := range b.requests {
		if waits(r) && !barred[r.Source] {
			// Those behind it must not come ahead of it.
			barred[r.Source] = true
			ids = append(ids, r.Id)
		}
	}
	return ids
}

// end gives requests their end, and tells their numbers, which rise, since
// the requests stand by number.
func (b *Buffer) end(ends func(api.Request) bool, fate int) []int {
	var ids []int
	for i, r := range b.requests {
		if ends(r) {
			b.requests[i].Fate = fate
			ids = append(ids, r.Id)
		}
	}
	return ids
}
