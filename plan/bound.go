package plan

import (
	"tidewheel/api"
	"tidewheel/span"
)

const (
	maxName      = 16
	maxTolerance = 1000
	maxAfter     = 100
	maxPercent   = 1000
	maxTarget    = 1000000
	maxActive    = 1000000
)

func within(n, least, most int) bool { return n >= least && n <= most }

func isName(name string) bool {
	if !within(len(name), 1, maxName) {
		return false
	}
	for _, b := range []byte(name) {
		if (b < 'a' || b > 'z') && (b < '0' || b > '9') && b != '-' {
			return false
		}
	}
	return true
}

// areNumbers is whether a plan's own numbers are within their bounds.
func areNumbers(p api.Plan) bool {
	return within(p.Min, 0, api.MaxPods) &&
		within(p.Max, max(1, p.Min), api.MaxPods) &&
		within(p.Poll, 1, api.MaxTicks) &&
		within(p.Cool, 1, api.MaxTicks) &&
		within(p.Tolerance, 0, maxTolerance) &&
		within(p.Back, 0, api.MaxPods) &&
		within(p.After, 0, maxAfter) &&
		within(p.Shift, -api.MaxShift, api.MaxShift)
}

func isPace(p api.Pace) bool {
	return within(p.Window, 0, api.MaxTicks) &&
		within(p.Pods, 0, api.MaxPods) &&
		within(p.Percent, 0, maxPercent) &&
		within(p.Period, 0, api.MaxTicks)
}

func checkTrigger(t api.Trigger) api.Errno {
	switch t.Kind {
	case api.KSpan:
		if !within(t.Target, 1, api.MaxPods) || t.Active != 0 {
			return api.ErrArg
		}
		return span.Check(t.Span)
	case api.KLag, api.KDepth:
		if within(t.Target, 1, maxTarget) && within(t.Active, 0, maxActive) && t.Span == (api.Span{}) {
			return api.OK
		}
	}
	return api.ErrArg
}
