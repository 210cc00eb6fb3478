package cron

import (
	"math"
	"math/rand/v2"
	"testing"
	"time"

	"tidewheel/api"
	"tidewheel/civil"
)

// at is the date and time that the library's calendar has for a clock
// that is shift minutes ahead.
func at(sec, shift int) api.Civil {
	x := time.Unix(int64(sec)+int64(shift)*60, 0).UTC()
	return api.Civil{
		Year: x.Year(), Month: int(x.Month()), Day: x.Day(),
		Hour: x.Hour(), Minute: x.Minute(), Second: x.Second(),
		Week: int(x.Weekday()),
	}
}

// sec is the time of a clock that isn't ahead.
func sec(year, month, day, hour, minute int) int {
	return int(time.Date(year, time.Month(month), day, hour, minute, 0, 0, time.UTC).Unix())
}

func in(set uint64, n int) bool {
	for i := range 64 {
		if i == n {
			return set&(1<<i) != 0
		}
	}
	return false
}

// fits says P8's words on Match once more, but for hour and minute.
func fits(c api.Cron, t api.Civil) bool {
	if !in(c.Month, t.Month) {
		return false
	}
	if !c.AnyDay && !c.AnyWeek {
		return in(c.Day, t.Day) || in(c.Week, t.Week)
	}
	return in(c.Day, t.Day) && in(c.Week, t.Week)
}

func wantMatch(t *testing.T, c api.Cron, x api.Civil, want bool) {
	t.Helper()
	if ok, e := Match(c, x); ok != want || e != api.OK {
		t.Errorf("Match(%v, %v) = %v, %d, not %v, OK", c, x, ok, e, want)
	}
}

func TestP8Match(t *testing.T) {
	friday := api.Civil{Year: 2026, Month: 11, Day: 13, Hour: 6, Minute: 30, Second: 59, Week: 5}
	for s, want := range map[string]bool{
		"* * * * *":          true,
		"30 6 * * *":         true,
		"30 6 13 11 5":       true,
		"29 6 * * *":         false,
		"30 7 * * *":         false,
		"* * * 10 *":         false,
		"30 6 13 11 *":       true,
		"30 6 12 11 *":       false,
		"30 6 * 11 5":        true,
		"30 6 * 11 4":        false,
		"30 6 13 11 4":       true,
		"30 6 12 11 5":       true,
		"30 6 12 11 4":       false,
		"30 6 1-31 11 4":     true,
		"30 6 12 11 0-6":     true,
		"30 6 12 11 */1":     true,
		"30 6 12 10 0-6":     false,
		"31 6 13 11 5":       false,
		"30 5 13 11 5":       false,
		"30 6 13 12 5":       false,
		"30 6 */1 11 4":      true,
		"0-29,31-59 * * * 5": false,
	} {
		wantMatch(t, parse(t, s), friday, want)
	}
}

// Year and Second are not looked at, and whether there is such a date is
// not asked; a number that isn't from 0 to 63 is in no set.
func TestP8MatchNumbersOutOfSets(t *testing.T) {
	good := api.Civil{Year: 2000, Month: 2, Day: 29, Hour: 12, Minute: 30, Week: 2}
	both := every
	both.AnyDay, both.AnyWeek = false, false
	for _, n := range []int{math.MinInt, -1 << 32, -65, -64, -63, -1, 60, 63, 64, 65, 128, 256, 1 << 32, 1<<32 + 1, 1 << 62, math.MaxInt} {
		for i, spoil := range []func(*api.Civil){
			func(x *api.Civil) { x.Minute = n },
			func(x *api.Civil) { x.Hour = n },
			func(x *api.Civil) { x.Month = n },
			func(x *api.Civil) { x.Day = n },
			func(x *api.Civil) { x.Week = n },
		} {
			x := good
			spoil(&x)
			wantMatch(t, every, x, false)
			wantMatch(t, both, x, i > 2)
		}
		x := good
		x.Day, x.Week = n, n
		wantMatch(t, both, x, false)
		x = good
		x.Year, x.Second = n, n
		wantMatch(t, every, x, true)
	}
	wantMatch(t, parse(t, "0 0 31 2 *"), api.Civil{Month: 2, Day: 31}, true)
	wantMatch(t, every, api.Civil{}, false)
	wantMatch(t, every, api.Civil{Month: 1, Day: 1}, true)
	wantMatch(t, every, api.Civil{Month: 1}, false)
	wantMatch(t, every, api.Civil{Day: 1}, false)
}

func TestP8MatchEverySet(t *testing.T) {
	r := rand.New(rand.NewPCG(8, 1))
	for range 300 {
		c := randomCron(r)
		for range 300 {
			x := at(r.IntN(1<<32), 0)
			if r.IntN(4) == 0 {
				x.Day, x.Week = r.IntN(34)-1, r.IntN(10)-1
			}
			wantMatch(t, c, x, fits(c, x) && in(c.Hour, x.Hour) && in(c.Minute, x.Minute))
		}
	}
}

// next and last say P8's words on Next and Last once more, day by day
// and minute by minute.
func next(c api.Cron, s, shift int) (int, bool) {
	day := math.Floor(float64(s+shift*60) / 86400)
	for d := int(day); d <= int(day)+3000; d++ {
		if !fits(c, at(d*86400, 0)) {
			continue
		}
		for m := d * 86400; m < (d+1)*86400; m += 60 {
			n, x := m-shift*60, at(m, 0)
			if n > s && in(c.Hour, x.Hour) && in(c.Minute, x.Minute) {
				return bounded(n)
			}
		}
	}
	return 0, false
}

func last(c api.Cron, s, shift int) (int, bool) {
	day := math.Floor(float64(s+shift*60) / 86400)
	for d := int(day); d >= int(day)-3000; d-- {
		if !fits(c, at(d*86400, 0)) {
			continue
		}
		for m := (d+1)*86400 - 60; m >= d*86400; m -= 60 {
			n, x := m-shift*60, at(m, 0)
			if n <= s && in(c.Hour, x.Hour) && in(c.Minute, x.Minute) {
				return bounded(n)
			}
		}
	}
	return 0, false
}

func bounded(n int) (int, bool) {
	if n < -api.MaxTime || n > api.MaxTime {
		return 0, false
	}
	return n, true
}

func wantNext(t *testing.T, c api.Cron, s, shift, want int, there bool) {
	t.Helper()
	if n, ok, e := Next(c, s, shift); n != want || ok != there || e != api.OK {
		t.Errorf("Next(%v, %d, %d) = %d, %v, %d, not %d, %v, OK", c, s, shift, n, ok, e, want, there)
	}
}

func wantLast(t *testing.T, c api.Cron, s, shift, want int, there bool) {
	t.Helper()
	if n, ok, e := Last(c, s, shift); n != want || ok != there || e != api.OK {
		t.Errorf("Last(%v, %d, %d) = %d, %v, %d, not %d, %v, OK", c, s, shift, n, ok, e, want, there)
	}
}

// hold holds Next and Last against next and last.
func hold(t *testing.T, c api.Cron, s, shift int) {
	t.Helper()
	n, ok := next(c, s, shift)
	wantNext(t, c, s, shift, n, ok)
	n, ok = last(c, s, shift)
	wantLast(t, c, s, shift, n, ok)
}

func TestP8NextLast(t *testing.T) {
	for _, x := range []struct {
		cron              string
		last, begin, next int
	}{
		{"30 6 * * *", sec(1969, 12, 31, 6, 30), 0, sec(1970, 1, 1, 6, 30)},
		{"30 6 * * *", sec(1970, 1, 1, 6, 30), sec(1970, 1, 1, 6, 30), sec(1970, 1, 2, 6, 30)},
		{"30 6 * * *", sec(1970, 1, 1, 6, 30), sec(1970, 1, 1, 6, 30) + 59, sec(1970, 1, 2, 6, 30)},
		{"30 6 * * *", sec(1969, 12, 31, 6, 30), sec(1970, 1, 1, 6, 30) - 1, sec(1970, 1, 1, 6, 30)},
		{"* * * * *", 0, 0, 60},
		{"* * * * *", 0, 59, 60},
		{"* * * * *", -60, -1, 0},
		{"* * * * *", -60, -60, 0},
		{"59 23 31 12 *", sec(1969, 12, 31, 23, 59), 0, sec(1970, 12, 31, 23, 59)},
		{"0 0 1 1 *", 0, 0, sec(1971, 1, 1, 0, 0)},
		{"0 0 1 1 *", sec(1969, 1, 1, 0, 0), -1, 0},
		{"0 0 29 2 *", sec(1968, 2, 29, 0, 0), 0, sec(1972, 2, 29, 0, 0)},
		{"0 12 13 * 5", sec(1969, 12, 26, 12, 0), 0, sec(1970, 1, 2, 12, 0)},
		{"0 12 13 * 5", sec(2026, 11, 13, 12, 0), sec(2026, 11, 17, 0, 0), sec(2026, 11, 20, 12, 0)},
		{"0 12 18 * 5", sec(2026, 11, 13, 12, 0), sec(2026, 11, 17, 0, 0), sec(2026, 11, 18, 12, 0)},
		{"0 12 * 2 5", sec(2026, 2, 27, 12, 0), sec(2026, 11, 17, 0, 0), sec(2027, 2, 5, 12, 0)},
		{"0 12 31 * *", sec(2026, 10, 31, 12, 0), sec(2026, 11, 17, 0, 0), sec(2026, 12, 31, 12, 0)},
		{"0 0 31 2 0", sec(2026, 2, 22, 0, 0), sec(2026, 11, 17, 0, 0), sec(2027, 2, 7, 0, 0)},
		{"50 5 17 11 *", sec(2025, 11, 17, 5, 50), sec(2026, 11, 17, 5, 49), sec(2026, 11, 17, 5, 50)},
		{"50 5 17 11 *", sec(2026, 11, 17, 5, 50), sec(2026, 11, 17, 6, 0), sec(2027, 11, 17, 5, 50)},
		{"10,50 5,7 * * *", sec(2026, 11, 17, 5, 50), sec(2026, 11, 17, 6, 30), sec(2026, 11, 17, 7, 10)},
		{"10,50 5,7 * * *", sec(2026, 11, 17, 5, 50), sec(2026, 11, 17, 5, 55), sec(2026, 11, 17, 7, 10)},
		{"10,50 5,7 * * *", sec(2026, 11, 17, 5, 50), sec(2026, 11, 17, 7, 5), sec(2026, 11, 17, 7, 10)},
		{"10,50 5,7 * * *", sec(2026, 11, 17, 7, 50), sec(2026, 11, 17, 7, 59), sec(2026, 11, 18, 5, 10)},
	} {
		c := parse(t, x.cron)
		wantNext(t, c, x.begin, 0, x.next, true)
		wantLast(t, c, x.begin, 0, x.last, true)
		hold(t, c, x.begin, 0)
	}
}

// The day is that of the clock that is ahead.
func TestP8NextLastShift(t *testing.T) {
	c := parse(t, "30 0 1 * *")
	wantNext(t, c, 0, 0, 30*60, true)
	wantNext(t, c, 0, 60, sec(1970, 1, 31, 23, 30), true)
	wantNext(t, c, 0, 30, sec(1970, 2, 1, 0, 0), true)
	wantNext(t, c, 0, 29, 60, true)
	wantNext(t, c, 0, -60, 90*60, true)
	wantNext(t, c, -1, 30, 0, true)
	wantLast(t, c, 0, 30, 0, true)
	wantLast(t, c, 0, 31, -60, true)
	wantLast(t, c, 0, 900, -870*60, true)
	wantLast(t, c, 0, -900, sec(1969, 12, 1, 15, 30), true)
	for shift := -api.MaxShift; shift <= api.MaxShift; shift++ {
		hold(t, c, 12345678, shift)
		hold(t, parse(t, "*/7 3-20 * * 1,5"), -12345678, shift)
	}
}

// The longest that a cron with a day at all makes wait is 8 years, where
// a year that 100 divides is no leap year: 2921 days.
func TestP8LeapDays(t *testing.T) {
	c := parse(t, "59 23 29 2 *")
	for _, year := range []int{1896, 2096, 2196, -104, -1104, 4896} {
		a, b := sec(year, 2, 29, 23, 59), sec(year+8, 2, 29, 23, 59)
		if b-a != 2921*86400 {
			t.Fatal(year)
		}
		wantNext(t, c, a-1, 0, a, true)
		wantNext(t, c, a, 0, b, true)
		wantLast(t, c, b, 0, b, true)
		wantLast(t, c, b-1, 0, a, true)
		wantNext(t, c, a+60, 2, b-120, true)
		wantLast(t, c, b-1-120, 2, a-120, true)
	}
	wantNext(t, c, sec(1996, 2, 29, 23, 59), 0, sec(2000, 2, 29, 23, 59), true)
	wantLast(t, c, sec(2004, 2, 29, 23, 58), 0, sec(2000, 2, 29, 23, 59), true)
}

// No cron makes wait as long as MaxDays: that what is looked at ends just
// there is asked of the inner calls.
func TestP8LastDayLookedAt(t *testing.T) {
	for _, s := range []string{"* * 1 1 *", "* * 31 12 *", "* * 29 2 *", "* * 17 11 *", "* * 31 * *", "* * 1 * *"} {
		c := parse(t, s)
		for _, begin := range []int{0, 1, 40, 58, 59, 10000, -10000} {
			x := at(begin*86400, 0)
			for d := 1; d < 3000; d++ {
				there := fits(c, at((begin+d)*86400, 0))
				if there {
					wantDay(t, c, x, begin+d, dayBehind, 1)
					break
				}
				if n, ok := dayBehind(c, x, begin+d); ok {
					t.Fatalf("%s: %d days behind %d: %d", s, d, begin, n)
				}
			}
			for d := 1; d < 3000; d++ {
				there := fits(c, at((begin-d)*86400, 0))
				if there {
					wantDay(t, c, x, begin-d, dayAhead, -1)
					break
				}
				if n, ok := dayAhead(c, x, begin-d); ok {
					t.Fatalf("%s: %d days ahead of %d: %d", s, d, begin, n)
				}
			}
		}
	}
}

// wantDay asks for a day with it as the end, and with ends beyond it.
func wantDay(t *testing.T, c api.Cron, x api.Civil, want int, find func(api.Cron, api.Civil, int) (int, bool), way int) {
	t.Helper()
	for _, more := range []int{0, 1, 31, 400} {
		if n, ok := find(c, x, want+more*way); n != want || !ok {
			t.Errorf("%v, %v: %d, %v, not %d, with the end %d", c, x, n, ok, want, want+more*way)
		}
	}
}

// A day that no month has is never found; that ends, and is told.
func TestP8NoSuchDay(t *testing.T) {
	for _, s := range []string{"0 0 31 2 *", "* * 30 2 *", "* * 30,31 2 *", "* * 31 2,4,6,9,11 *", "* * 31 4 *", "59 23 31 11 *"} {
		c := parse(t, s)
		for _, begin := range []int{0, -1, sec(2000, 2, 29, 0, 0), sec(2000, 3, 1, 0, 0), sec(2026, 11, 17, 9, 9), api.MaxTime, -api.MaxTime} {
			for _, shift := range []int{0, 900, -900} {
				wantNext(t, c, begin, shift, 0, false)
				wantLast(t, c, begin, shift, 0, false)
			}
		}
	}
}

// At either end of the times there are: only what civil.Of takes is told.
func TestP8EndOfTime(t *testing.T) {
	const top, low = api.MaxTime - 40, 40 - api.MaxTime // minutes begin at these
	for _, shift := range []int{0, 1, -1, 900, -900} {
		wantNext(t, every, top-1, shift, top, true)
		wantNext(t, every, top, shift, 0, false)
		wantNext(t, every, api.MaxTime, shift, 0, false)
		wantLast(t, every, api.MaxTime, shift, top, true)
		wantLast(t, every, low, shift, low, true)
		wantLast(t, every, low-1, shift, 0, false)
		wantLast(t, every, -api.MaxTime, shift, 0, false)
		wantNext(t, every, -api.MaxTime, shift, low, true)
		r := rand.New(rand.NewPCG(8, 2))
		for range 200 {
			c := randomCron(r)
			for _, s := range []int{top, low, api.MaxTime, -api.MaxTime, top - r.IntN(1<<28), low + r.IntN(1<<28)} {
				hold(t, c, s, shift)
			}
		}
	}
	wantNext(t, parse(t, "47 9 16 11 *"), api.MaxTime, 0, 0, false)
	wantNext(t, parse(t, "46 9 16 11 *"), top-1, 0, top, true)
	wantLast(t, parse(t, "13 14 15 2 *"), -api.MaxTime, 0, 0, false)
	wantLast(t, parse(t, "14 14 15 2 *"), low, 0, low, true)
}

func TestP8RandomCrons(t *testing.T) {
	r := rand.New(rand.NewPCG(8, 3))
	for range 3000 {
		c := randomCron(r)
		s := r.IntN(2*api.MaxTime+1) - api.MaxTime
		hold(t, c, s, r.IntN(2*api.MaxShift+1)-api.MaxShift)
		if n, ok := next(c, s, 0); ok {
			hold(t, c, n, 0)
			hold(t, c, n-1, 0)
			hold(t, c, n+60, 0)
		}
	}
}

// Every day of years of each kind, so that each month, of each length and
// beginning on each day of the week, is gone through both ways.
func TestP8EveryDay(t *testing.T) {
	for _, s := range []string{"0 0 1 * *", "5 5 31 * *", "0 23 29,30 1-3 *", "59 23 * * 0", "0 12 28 2 6", "0 0 30 2 1", "0 1 * 2-4 3,4", "0 0 1-31 6 1"} {
		c := parse(t, s)
		for day := -40; day < 800; day++ {
			hold(t, c, (11000+day)*86400+12*3600, 0)
			hold(t, c, -day*86400-1, 0)
		}
	}
}

// Next goes from time to time without leaving out one, and Last goes back.
func TestP8EveryMinuteOfAWeek(t *testing.T) {
	for _, s := range []string{"* * * * *", "*/7 */5 * * 1-5", "0,59 0,23 * * *", "30 6 18 * 5"} {
		c, begin := parse(t, s), sec(2026, 11, 17, 0, 0)
		before, hits := begin, 0
		for m := begin + 60; m < begin+7*86400; m += 60 {
			x, _ := civil.Of(m, 0)
			if hit, _ := Match(c, x); !hit {
				continue
			}
			wantNext(t, c, before, 0, m, true)
			wantNext(t, c, m-1, 0, m, true)
			if hits > 0 {
				wantLast(t, c, m-1, 0, before, true)
			}
			wantLast(t, c, m, 0, m, true)
			before, hits = m, hits+1
		}
		if hits < 2 {
			t.Errorf("%s: %d hits", s, hits)
		}
	}
}

func TestP8Errors(t *testing.T) {
	bad := []api.Cron{{}, every, every, every}
	bad[1].Minute = 0
	bad[2].Week |= 1 << 7
	bad[3].Day ^= 2
	for _, c := range bad {
		wantErrors(t, c, 0, 0)
		wantErrors(t, c, api.MaxTime+1, 901)
		if ok, e := Match(c, at(0, 0)); ok || e != api.ErrArg {
			t.Errorf("Match(%v) = %v, %d", c, ok, e)
		}
	}
	for _, s := range []int{-api.MaxTime - 1, api.MaxTime + 1, math.MinInt, math.MaxInt} {
		for _, shift := range []int{0, 900, -900, 901} {
			wantErrors(t, every, s, shift)
		}
	}
	for _, shift := range []int{-901, 901, math.MinInt, math.MaxInt} {
		for _, s := range []int{0, api.MaxTime, -api.MaxTime} {
			wantErrors(t, every, s, shift)
		}
	}
}

func wantErrors(t *testing.T, c api.Cron, s, shift int) {
	t.Helper()
	if n, ok, e := Next(c, s, shift); n != 0 || ok || e != api.ErrArg {
		t.Errorf("Next(%v, %d, %d) = %d, %v, %d", c, s, shift, n, ok, e)
	}
	if n, ok, e := Last(c, s, shift); n != 0 || ok || e != api.ErrArg {
		t.Errorf("Last(%v, %d, %d) = %d, %v, %d", c, s, shift, n, ok, e)
	}
}

func FuzzP8(f *testing.F) {
	f.Add("30 6 * * *", 0, 0)
	f.Add("0 0 29 2 *", sec(1896, 2, 29, 0, 0), 900)
	f.Add("0 12 13 * 5", -api.MaxTime, -900)
	f.Fuzz(func(t *testing.T, s string, sec, shift int) {
		c, e := Parse(s)
		if _, f := civil.Of(sec, shift); e != api.OK || f != api.OK {
			wantErrors(t, api.Cron{}, sec, shift)
			return
		}
		hold(t, c, sec, shift)
	})
}
