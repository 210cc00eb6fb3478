package cron

import (
	"math"
	"strings"
	"testing"

	"tidewheel/api"
)

// answers of all calls at one input.
type answers struct {
	check      api.Errno
	parse      api.Cron
	print      string
	match      bool
	next, last int
	is, was    bool
	e          [5]api.Errno
}

func answersOf(c api.Cron, s string, x api.Civil, sec, shift int) (a answers) {
	a.check = Check(c)
	a.parse, a.e[0] = Parse(s)
	a.print, a.e[1] = Print(c)
	a.match, a.e[2] = Match(c, x)
	a.next, a.is, a.e[3] = Next(c, sec, shift)
	a.last, a.was, a.e[4] = Last(c, sec, shift)
	return a
}

// crons, most of them wrong.
func crons() (all []api.Cron) {
	for _, n := range []uint64{0, 1, 2, 3, 1 << 31, 1 << 59, 1 << 63, math.MaxUint64, math.MaxInt64} {
		for marks := range 4 {
			day, week := marks&1 == 1, marks&2 == 2
			all = append(all, api.Cron{Minute: n, Hour: n, Day: n, Month: n, Week: n, AnyDay: day, AnyWeek: week})
			for i := range 5 {
				c := every
				c.AnyDay, c.AnyWeek = day, week
				*sets(&c)[i] = n
				all = append(all, c)
			}
		}
	}
	return append(all, every)
}

func numbers() []int {
	all := []int{math.MinInt, math.MinInt + 1, math.MaxInt - 1, math.MaxInt}
	for _, n := range []int{0, 1, 31, 64, api.MaxShift, 86400, 1 << 31, api.MaxTime, 1 << 62} {
		all = append(all, n, -n, n+1, -n-1)
	}
	return all
}

// A panic at any of these ends the test.
func TestP1AnswersWhateverItIsGiven(t *testing.T) {
	for _, c := range crons() {
		for _, n := range numbers() {
			for _, m := range numbers() {
				a := answersOf(c, "", api.Civil{Year: n, Month: m, Day: n, Hour: m, Minute: n, Second: m, Week: n}, n, m)
				for _, e := range a.e[1:] {
					if e != api.OK && e != api.ErrArg {
						t.Errorf("%v, %d, %d: %v", c, n, m, a)
					}
				}
			}
		}
	}
}

// Each byte at each place of a text, in place of what is there, and more.
func TestP1ParsesAnyBytes(t *testing.T) {
	const good = "*/20 0-6/3 1,15 2 1-5"
	for i := range len(good) + 1 {
		for b := range 256 {
			one := string([]byte{byte(b)})
			holdParse(t, good[:i]+one+good[i:])
			if i < len(good) {
				holdParse(t, good[:i]+one+good[i+1:])
			}
		}
		holdParse(t, good[:i])
		holdParse(t, good[i:])
	}
	holdParse(t, strings.Repeat("\xff", 300))
}

// With an error every other result is its zero value, and so it is where
// there is no time.
func TestP2ErrorTellsNothingElse(t *testing.T) {
	for _, c := range crons() {
		for _, n := range numbers() {
			a := answersOf(c, "* * * * * *", api.Civil{Month: 1, Day: 1}, n, 0)
			if a.parse != (api.Cron{}) || a.e[1] != api.OK && a.print != "" || a.e[2] != api.OK && a.match {
				t.Errorf("%v: %v", c, a)
			}
			if a.e[3] != api.OK && a.is || !a.is && a.next != 0 || a.e[4] != api.OK && a.was || !a.was && a.last != 0 {
				t.Errorf("%v, %d: %v", c, n, a)
			}
			for _, e := range a.e[1:3] {
				if e != a.check {
					t.Errorf("%v: %v", c, a)
				}
			}
		}
	}
}

// Other calls stand between the first answer and the second one, in
// another order, so that a thing kept between calls would be seen.
func TestP2NothingIsKept(t *testing.T) {
	texts := []string{"* * * * *", "30 6 * * *", "", "0 0 29 2 *", "0 12 13 * 5", "*/20 0-6/3 1,15 2 1-5", "60 * * * *"}
	all := crons()
	for _, s := range texts {
		c, _ := Parse(s)
		all = append(all, c)
	}
	first := make([]answers, len(all))
	get := func(i int) answers {
		return answersOf(all[i], texts[i%len(texts)], api.Civil{Month: 1, Day: i, Minute: i}, i*1000000, i)
	}
	for i := range all {
		first[i] = get(i)
	}
	for i := len(all) - 1; i >= 0; i-- {
		if a := get(i); a != first[i] {
			t.Errorf("%v: %v, and %v before", all[i], a, first[i])
		}
	}
}
