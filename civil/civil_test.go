package civil

import (
	"math"
	"testing"
	"time"

	"tidewheel/api"
)

// edges are numbers at, and one beside, each bound at which an answer turns.
func edges() []int {
	all := []int{math.MinInt, math.MinInt + 1, math.MaxInt - 1, math.MaxInt}
	for _, n := range []int{0, 12, 23, 28, 30, 59, 100, 400, api.MaxShift, 1970, 4000, 8000, 86400, 1 << 31, api.MaxTime, api.Most, 1 << 62} {
		for d := -1; d <= 1; d++ {
			all = append(all, n+d, -n+d)
		}
	}
	return all
}

// at is the date and time that the library's calendar, which is the same
// at all times too, has for a clock that is shift minutes ahead.
func at(sec, shift int) api.Civil {
	x := time.Unix(int64(sec)+int64(shift)*60, 0).UTC()
	return api.Civil{
		Year: x.Year(), Month: int(x.Month()), Day: x.Day(),
		Hour: x.Hour(), Minute: x.Minute(), Second: x.Second(),
		Week: int(x.Weekday()),
	}
}

func wantDays(t *testing.T, year, month, day, want int) {
	t.Helper()
	if n, e := Days(year, month, day); n != want || e != api.OK {
		t.Errorf("Days(%d, %d, %d) = %d, %d, not %d, OK", year, month, day, n, e, want)
	}
}

func wantNoDays(t *testing.T, year, month, day int) {
	t.Helper()
	if n, e := Days(year, month, day); n != 0 || e != api.ErrArg {
		t.Errorf("Days(%d, %d, %d) = %d, %d, not 0, ErrArg", year, month, day, n, e)
	}
}

func wantOf(t *testing.T, sec, shift int, want api.Civil) {
	t.Helper()
	if c, e := Of(sec, shift); c != want || e != api.OK {
		t.Errorf("Of(%d, %d) = %v, %d, not %v, OK", sec, shift, c, e, want)
	}
}

func wantNoDate(t *testing.T, sec, shift int) {
	t.Helper()
	if c, e := Of(sec, shift); c != (api.Civil{}) || e != api.ErrArg {
		t.Errorf("Of(%d, %d) = %v, %d, not the zero value, ErrArg", sec, shift, c, e)
	}
}

func wantSeconds(t *testing.T, c api.Civil, shift, want int) {
	t.Helper()
	if n, e := Seconds(c, shift); n != want || e != api.OK {
		t.Errorf("Seconds(%v, %d) = %d, %d, not %d, OK", c, shift, n, e, want)
	}
}

func wantNoSeconds(t *testing.T, c api.Civil, shift int) {
	t.Helper()
	if n, e := Seconds(c, shift); n != 0 || e != api.ErrArg {
		t.Errorf("Seconds(%v, %d) = %d, %d, not 0, ErrArg", c, shift, n, e)
	}
}

func TestP4Days(t *testing.T) {
	for _, x := range [][4]int{
		{1970, 1, 1, 0}, {1970, 1, 2, 1}, {1969, 12, 31, -1}, {1970, 12, 31, 364}, {1971, 1, 1, 365},
		{1972, 2, 29, 789}, {1972, 3, 1, 790}, {2000, 2, 29, 11016}, {2000, 3, 1, 11017},
		{1900, 2, 28, -25509}, {1900, 3, 1, -25508}, {2026, 11, 17, 20774},
		{0, 1, 1, -719528}, {0, 2, 29, -719469}, {-1, 12, 31, -719529}, {-4, 2, 29, -720930},
		{-4000, 1, 1, -2180498}, {8000, 12, 31, 2202777},
	} {
		wantDays(t, x[0], x[1], x[2], x[3])
	}
}

func TestP4LeapYears(t *testing.T) {
	for _, year := range []int{-4000, -3600, -400, -4, 0, 4, 400, 1600, 1968, 1972, 2000, 2024, 2400, 7996, 8000} {
		if _, e := Days(year, 2, 29); e != api.OK {
			t.Errorf("Days(%d, 2, 29) told %d", year, e)
		}
		wantNoDays(t, year, 2, 30)
	}
	for _, year := range []int{-3999, -3900, -100, -300, -1, -2, -3, 1, 100, 1700, 1800, 1900, 1970, 2023, 2100, 7900, 7999} {
		wantNoDays(t, year, 2, 29)
	}
}

func TestP4NoSuchDate(t *testing.T) {
	for _, x := range [][3]int{
		{-4001, 12, 31}, {-4001, 1, 1}, {8001, 1, 1}, {math.MinInt, 1, 1}, {math.MaxInt, 1, 1},
		{2000, 0, 1}, {2000, 13, 1}, {2000, -1, 1}, {2000, math.MinInt, 1}, {2000, math.MaxInt, 1},
		{2000, 1, 0}, {2000, 1, -1}, {2000, 1, math.MinInt}, {2000, 1, math.MaxInt},
		{0, 0, 0}, {1900, 2, 29}, {2001, 2, 29}, {2000, 2, 30},
	} {
		wantNoDays(t, x[0], x[1], x[2])
	}
	for i, last := range []int{31, 28, 31, 30, 31, 30, 31, 31, 30, 31, 30, 31} {
		if _, e := Days(1999, i+1, last); e != api.OK {
			t.Errorf("Days(1999, %d, %d) told %d", i+1, last, e)
		}
		wantNoDays(t, 1999, i+1, last+1)
		wantNoDays(t, 1999, i+1, 0)
	}
}

// Every date that there is follows the one ahead of it by one day.
func TestP4EveryDay(t *testing.T) {
	want := -2180498
	for year := -4000; year <= 8000; year++ {
		leap := 0
		if year%400 == 0 || year%100 != 0 && year%4 == 0 {
			leap = 1
		}
		for i, last := range []int{31, 28 + leap, 31, 30, 31, 30, 31, 31, 30, 31, 30, 31} {
			for day := 1; day <= last; day++ {
				if n, e := Days(year, i+1, day); n != want || e != api.OK {
					t.Fatalf("Days(%d, %d, %d) = %d, %d, not %d, OK", year, i+1, day, n, e, want)
				}
				want++
			}
			wantNoDays(t, year, i+1, last+1)
		}
	}
}

func TestP5Of(t *testing.T) {
	for _, x := range []struct {
		sec, shift int
		want       api.Civil
	}{
		{0, 0, api.Civil{Year: 1970, Month: 1, Day: 1, Week: 4}},
		{60, 0, api.Civil{Year: 1970, Month: 1, Day: 1, Minute: 1, Week: 4}},
		{0, 60, api.Civil{Year: 1970, Month: 1, Day: 1, Hour: 1, Week: 4}},
		{-1, 0, api.Civil{Year: 1969, Month: 12, Day: 31, Hour: 23, Minute: 59, Second: 59, Week: 3}},
		{0, -1, api.Civil{Year: 1969, Month: 12, Day: 31, Hour: 23, Minute: 59, Week: 3}},
		{86399, 0, api.Civil{Year: 1970, Month: 1, Day: 1, Hour: 23, Minute: 59, Second: 59, Week: 4}},
		{86400, 0, api.Civil{Year: 1970, Month: 1, Day: 2, Week: 5}},
		{3 * 86400, 0, api.Civil{Year: 1970, Month: 1, Day: 4, Week: 0}},
		{-4*86400 - 1, 0, api.Civil{Year: 1969, Month: 12, Day: 27, Hour: 23, Minute: 59, Second: 59, Week: 6}},
		{951782400, 0, api.Civil{Year: 2000, Month: 2, Day: 29, Week: 2}},
		{951782400, 900, api.Civil{Year: 2000, Month: 2, Day: 29, Hour: 15, Week: 2}},
		{951782400, -900, api.Civil{Year: 2000, Month: 2, Day: 28, Hour: 9, Week: 1}},
		{951782400 + 45296, 0, api.Civil{Year: 2000, Month: 2, Day: 29, Hour: 12, Minute: 34, Second: 56, Week: 2}},
		{-62167219200, 0, api.Civil{Year: 0, Month: 1, Day: 1, Week: 6}},
		{-62167219201, 0, api.Civil{Year: -1, Month: 12, Day: 31, Hour: 23, Minute: 59, Second: 59, Week: 5}},
		{api.MaxTime, 0, api.Civil{Year: 5138, Month: 11, Day: 16, Hour: 9, Minute: 46, Second: 40, Week: 3}},
		{-api.MaxTime, 0, api.Civil{Year: -1199, Month: 2, Day: 15, Hour: 14, Minute: 13, Second: 20, Week: 4}},
	} {
		wantOf(t, x.sec, x.shift, x.want)
		wantSeconds(t, x.want, x.shift, x.sec)
	}
}

// The bound of sec is that of sec itself, whatever shift is beside it.
func TestP5OfBounds(t *testing.T) {
	for _, shift := range []int{-api.MaxShift, -1, 0, 1, api.MaxShift} {
		for _, sec := range []int{-api.MaxTime, 1 - api.MaxTime, api.MaxTime - 1, api.MaxTime} {
			wantOf(t, sec, shift, at(sec, shift))
			wantSeconds(t, at(sec, shift), shift, sec)
		}
		for _, sec := range []int{-api.MaxTime - 1, api.MaxTime + 1, math.MinInt, math.MaxInt} {
			wantNoDate(t, sec, shift)
		}
	}
	for _, shift := range []int{-api.MaxShift - 1, api.MaxShift + 1, math.MinInt, math.MaxInt} {
		for _, sec := range []int{0, api.MaxTime, -api.MaxTime, math.MaxInt} {
			wantNoDate(t, sec, shift)
		}
	}
}

func TestP5SecondsWeekIsNotLookedAt(t *testing.T) {
	c := api.Civil{Year: 2000, Month: 2, Day: 29}
	for _, c.Week = range []int{0, 1, 2, 6, 7, -1, math.MinInt, math.MaxInt} {
		wantSeconds(t, c, 0, 951782400)
		wantSeconds(t, c, 90, 951782400-5400)
	}
}

func TestP5SecondsWrongInputs(t *testing.T) {
	good := api.Civil{Year: 2000, Month: 2, Day: 29, Hour: 23, Minute: 59, Second: 59, Week: 2}
	wantSeconds(t, good, 0, 951782400+86399)
	for _, shift := range []int{-api.MaxShift - 1, api.MaxShift + 1, math.MinInt, math.MaxInt} {
		wantNoSeconds(t, good, shift)
	}
	for _, spoil := range []func(*api.Civil, int){
		func(c *api.Civil, n int) { c.Year = n },
		func(c *api.Civil, n int) { c.Month = n },
		func(c *api.Civil, n int) { c.Day = n },
		func(c *api.Civil, n int) { c.Hour = n },
		func(c *api.Civil, n int) { c.Minute = n },
		func(c *api.Civil, n int) { c.Second = n },
	} {
		for _, n := range []int{math.MinInt, -8001, math.MaxInt, 8001} {
			c := good
			spoil(&c, n)
			wantNoSeconds(t, c, 0)
		}
	}
	for _, c := range []api.Civil{
		{}, {Year: 2001, Month: 2, Day: 29}, {Year: 2000, Month: 0, Day: 1}, {Year: 2000, Month: 13, Day: 1},
		{Year: 2000, Month: 1, Day: 1, Hour: 24}, {Year: 2000, Month: 1, Day: 1, Hour: -1},
		{Year: 2000, Month: 1, Day: 1, Minute: 60}, {Year: 2000, Month: 1, Day: 1, Minute: -1},
		{Year: 2000, Month: 1, Day: 1, Second: 60}, {Year: 2000, Month: 1, Day: 1, Second: -1},
	} {
		wantNoSeconds(t, c, 0)
	}
}

// A date that there is may still be of a sec that is out of its bounds,
// for one clock and not for another.
func TestP5SecondsBounds(t *testing.T) {
	first := api.Civil{Year: -1199, Month: 2, Day: 15, Hour: 14, Minute: 13, Second: 20}
	last := api.Civil{Year: 5138, Month: 11, Day: 16, Hour: 9, Minute: 46, Second: 40}
	wantSeconds(t, first, 0, -api.MaxTime)
	wantNoSeconds(t, first, 1)
	wantSeconds(t, first, -1, 60-api.MaxTime)
	wantSeconds(t, last, 0, api.MaxTime)
	wantNoSeconds(t, last, -1)
	wantSeconds(t, last, 1, api.MaxTime-60)
	first.Second--
	wantNoSeconds(t, first, 0)
	wantSeconds(t, first, -1, 59-api.MaxTime)
	last.Second++
	wantNoSeconds(t, last, 0)
	wantSeconds(t, last, 1, api.MaxTime-59)
	for _, year := range []int{-4000, -1200, 5139, 8000} {
		wantNoSeconds(t, api.Civil{Year: year, Month: 1, Day: 1}, 0)
	}
}

// The first and the last second of each day that is whole within the bounds.
func TestP5EveryDay(t *testing.T) {
	for day := -api.MaxTime / 86400; day < api.MaxTime/86400; day++ {
		for _, s := range []int{day * 86400, day*86400 + 86399} {
			want := at(s, 0)
			if c, e := Of(s, 0); c != want || e != api.OK {
				t.Fatalf("Of(%d, 0) = %v, %d, not %v, OK", s, c, e, want)
			}
			if n, e := Seconds(want, 0); n != s || e != api.OK {
				t.Fatalf("Seconds(%v, 0) = %d, %d, not %d, OK", want, n, e, s)
			}
		}
	}
}

// checkTime holds Of and Seconds against the library's calendar.
func checkTime(t *testing.T, sec, shift int) {
	t.Helper()
	if sec < -api.MaxTime || sec > api.MaxTime || shift < -api.MaxShift || shift > api.MaxShift {
		wantNoDate(t, sec, shift)
		return
	}
	wantOf(t, sec, shift, at(sec, shift))
	wantSeconds(t, at(sec, shift), shift, sec)
}

func TestP5EveryShift(t *testing.T) {
	for shift := -api.MaxShift - 2; shift <= api.MaxShift+2; shift++ {
		for _, sec := range []int{0, -1, 951782400, 951782399, -62167219200, 12345678901, -12345678901} {
			checkTime(t, sec, shift)
		}
	}
}

func FuzzP5(f *testing.F) {
	f.Add(0, 0)
	f.Add(api.MaxTime, api.MaxShift)
	f.Add(-api.MaxTime, -api.MaxShift)
	f.Add(951782399, -61)
	f.Fuzz(checkTime)
}

type answers struct {
	days, seconds int
	of            api.Civil
	e             [3]api.Errno
}

func answersOf(a, b, c int) (x answers) {
	x.days, x.e[0] = Days(a, b, c)
	x.of, x.e[1] = Of(a, b)
	x.seconds, x.e[2] = Seconds(api.Civil{Year: a, Month: b, Day: c, Hour: b, Minute: c, Second: c, Week: a}, c)
	return x
}

// A panic at any of the edges ends the test.
func TestP1AnswersAtEveryEdge(t *testing.T) {
	for _, a := range edges() {
		for _, b := range edges() {
			for _, c := range edges() {
				x := answersOf(a, b, c)
				for _, e := range x.e {
					if e != api.OK && e != api.ErrArg {
						t.Errorf("%d, %d, %d: error %d", a, b, c, e)
					}
				}
			}
		}
	}
}

// Other calls stand between the first answer and the second one, in
// another order, so that a thing kept between calls would be seen.
func TestP2NothingIsKept(t *testing.T) {
	all := edges()
	first := make(map[[2]int]answers)
	for _, a := range all {
		for _, b := range all {
			first[[2]int{a, b}] = answersOf(a, b, 28)
		}
	}
	for i := len(all) - 1; i >= 0; i-- {
		for j := len(all) - 1; j >= 0; j-- {
			a, b := all[j], all[i]
			if x := answersOf(a, b, 28); x != first[[2]int{a, b}] {
				t.Errorf("%d, %d: %v, and %v before", a, b, x, first[[2]int{a, b}])
			}
		}
	}
}

// With an error every other result is its zero value.
func TestP2ErrorTellsNothingElse(t *testing.T) {
	for _, a := range edges() {
		for _, b := range edges() {
			for _, c := range edges() {
				x := answersOf(a, b, c)
				if x.e[0] != api.OK && x.days != 0 || x.e[1] != api.OK && x.of != (api.Civil{}) || x.e[2] != api.OK && x.seconds != 0 {
					t.Errorf("%d, %d, %d: %v", a, b, c, x)
				}
			}
		}
	}
}
