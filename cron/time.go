package cron

import (
	"tidewheel/api"
	"tidewheel/civil"
)

const (
	minuteSecs = 60
	hourMins   = 60
	daySecs    = 24 * hourMins * minuteSecs
)

// Match: P8.
func Match(c api.Cron, t api.Civil) (bool, api.Errno) {
	if e := Check(c); e != api.OK {
		return false, e
	}
	return isDay(c, t) && has(c.Hour, t.Hour) && has(c.Minute, t.Minute), api.OK
}

// Next: P8.
func Next(c api.Cron, sec, shift int) (int, bool, api.Errno) {
	t, e := begin(c, sec, shift)
	if e != api.OK {
		return 0, false, e
	}
	day, _ := civil.Days(t.Year, t.Month, t.Day)
	// The minute that sec is in has begun already, at sec at the latest.
	minute, ok := minuteFrom(c, t.Hour, t.Minute+1)
	if !ok || !isDay(c, t) {
		day, ok = dayBehind(c, t, day+api.MaxDays)
		minute, _ = minuteFrom(c, 0, 0)
	}
	return answer(day, minute, shift, ok)
}

// Last: P8.
func Last(c api.Cron, sec, shift int) (int, bool, api.Errno) {
	t, e := begin(c, sec, shift)
	if e != api.OK {
		return 0, false, e
	}
	day, _ := civil.Days(t.Year, t.Month, t.Day)
	minute, ok := minuteUpTo(c, t.Hour, t.Minute)
	if !ok || !isDay(c, t) {
		day, ok = dayAhead(c, t, day-api.MaxDays)
		minute, _ = minuteUpTo(c, 23, 59)
	}
	return answer(day, minute, shift, ok)
}

// begin is the date and time from which on a cron is looked for.
func begin(c api.Cron, sec, shift int) (api.Civil, api.Errno) {
	if e := Check(c); e != api.OK {
		return api.Civil{}, e
	}
	return civil.Of(sec, shift)
}

// answer tells the sec at which that minute of that day begins, if it
// was found, and is one that civil.Of takes.
func answer(day, minute, shift int, found bool) (int, bool, api.Errno) {
	sec := day*daySecs + (minute-shift)*minuteSecs
	if _, e := civil.Of(sec, shift); e != api.OK || !found {
		return 0, false, api.OK
	}
	return sec, true, api.OK
}

// isDay tells whether the cron has t's date, at whatever time.
func isDay(c api.Cron, t api.Civil) bool {
	day, week := has(c.Day, t.Day), has(c.Week, t.Week)
	return has(c.Month, t.Month) && (day && week || isEither(c) && (day || week))
}

// isEither tells whether one of day and day of the week is enough.
func isEither(c api.Cron) bool { return !c.AnyDay && !c.AnyWeek }

// minuteFrom is the cron's least minute of a day that isn't ahead of
// that hour and minute; minute may be 60.
func minuteFrom(c api.Cron, hour, minute int) (int, bool) {
	if m, ok := from(c.Minute, minute); ok && has(c.Hour, hour) {
		return hour*hourMins + m, true
	}
	h, ok := from(c.Hour, hour+1)
	m, _ := from(c.Minute, 0)
	return h*hourMins + m, ok
}

// minuteUpTo is the cron's greatest minute of a day that isn't behind
// that hour and minute.
func minuteUpTo(c api.Cron, hour, minute int) (int, bool) {
	if m, ok := upTo(c.Minute, minute); ok && has(c.Hour, hour) {
		return hour*hourMins + m, true
	}
	h, ok := upTo(c.Hour, hour-1)
	m, _ := upTo(c.Minute, 59)
	return h*hourMins + m, ok
}

// dayBehind is the cron's first day behind t's, if it isn't behind last.
// It goes by months, of which there are few, and looks only at those of
// the cron: there is one in each year, so that it ends.
func dayBehind(c api.Cron, t api.Civil, last int) (int, bool) {
	year, month, day := t.Year, t.Month, t.Day+1
	for {
		if has(c.Month, month) {
			ahead, set := daysOf(c, year, month)
			if n, ok := from(set, day); ok || ahead >= last {
				return ahead + n, ok && ahead+n <= last
			}
		}
		month, day = month+1, 1
		if month > 12 {
			year, month = year+1, 1
		}
	}
}

// dayAhead is the cron's last day ahead of t's, if it isn't ahead of
// first: the other way round than dayBehind.
func dayAhead(c api.Cron, t api.Civil, first int) (int, bool) {
	year, month, day := t.Year, t.Month, t.Day-1
	for {
		if has(c.Month, month) {
			ahead, set := daysOf(c, year, month)
			if n, ok := upTo(set, day); ok || ahead < first {
				return ahead + n, ok && ahead+n >= first
			}
		}
		month, day = month-1, 31
		if month < 1 {
			year, month = year-1, 12
		}
	}
}

// daysOf is the set of the cron's days of one of its months, and how
// many days from 1970 on it is to the day ahead of that month.
func daysOf(c api.Cron, year, month int) (int, uint64) {
	first, _ := civil.Days(year, month, 1)
	week := weekDays(c.Week, first)
	set := c.Day & week
	if isEither(c) {
		set = c.Day | week
	}
	for day := 29; day <= 31; day++ {
		if _, e := civil.Days(year, month, day); e != api.OK {
			set &^= 1 << day
		}
	}
	return first - 1, set
}

// weekDays is the set of the days from 1 to 31, of a month that begins
// first days from 1970 on, of which the day of the week is in week.
func weekDays(week uint64, first int) uint64 {
	const thursday = 4 // January 1, 1970
	// A remainder has the sign of what is divided, which may be below 0.
	begins := ((first+thursday)%7 + 7) % 7
	var weeks uint64
	for n := range 6 {
		weeks |= week << (7 * n)
	}
	return weeks >> begins << 1 & bound{1, 31}.all()
}
