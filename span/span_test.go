package span

import (
	"math"
	"math/rand/v2"
	"testing"
	"time"

	"tidewheel/api"
	"tidewheel/civil"
	"tidewheel/cron"
)

const (
	day    = 86400
	hour   = 3600
	minute = 60
	monday = 4 * day // January 5, 1970
)

func spanOf(t testing.TB, start, end string) api.Span {
	t.Helper()
	a, e := cron.Parse(start)
	b, f := cron.Parse(end)
	if e != api.OK || f != api.OK {
		t.Fatal(start, e, end, f)
	}
	return api.Span{Start: a, End: b}
}

func sec(year, month, day, hour, minute int) int {
	return int(time.Date(year, time.Month(month), day, hour, minute, 0, 0, time.UTC).Unix())
}

func wantIn(t *testing.T, s api.Span, sec, shift int, want bool) {
	t.Helper()
	if in, e := In(s, sec, shift); in != want || e != api.OK {
		t.Errorf("In(%v, %d, %d) = %v, %d, not %v, OK", s, sec, shift, in, e, want)
	}
}

func wantEdge(t *testing.T, s api.Span, sec, shift, want int) {
	t.Helper()
	if n, ok, e := Edge(s, sec, shift); n != want || !ok || e != api.OK {
		t.Errorf("Edge(%v, %d, %d) = %d, %v, %d, not %d, true, OK", s, sec, shift, n, ok, e, want)
	}
}

func wantNoEdge(t *testing.T, s api.Span, sec, shift int) {
	t.Helper()
	if n, ok, e := Edge(s, sec, shift); n != 0 || ok || e != api.OK {
		t.Errorf("Edge(%v, %d, %d) = %d, %v, %d, not 0, false, OK", s, sec, shift, n, ok, e)
	}
}

func wantErrors(t *testing.T, s api.Span, sec, shift int) {
	t.Helper()
	if in, e := In(s, sec, shift); in || e != api.ErrArg {
		t.Errorf("In(%v, %d, %d) = %v, %d, not false, ErrArg", s, sec, shift, in, e)
	}
	if n, ok, e := Edge(s, sec, shift); n != 0 || ok || e != api.ErrArg {
		t.Errorf("Edge(%v, %d, %d) = %d, %v, %d, not 0, false, ErrArg", s, sec, shift, n, ok, e)
	}
}

// From 8 to 18 on working days.
func TestP9InAndEdge(t *testing.T) {
	s := spanOf(t, "0 8 * * 1-5", "0 18 * * *")
	for _, x := range []struct {
		sec  int
		in   bool
		edge int
	}{
		{monday, false, monday + 8*hour},
		{monday + 8*hour - 1, false, monday + 8*hour},
		{monday + 8*hour, true, monday + 18*hour},
		{monday + 9*hour, true, monday + 18*hour},
		{monday + 18*hour - 1, true, monday + 18*hour},
		{monday + 18*hour, false, monday + day + 8*hour},
		{monday + 4*day + 18*hour, false, monday + 7*day + 8*hour},
		{monday + 5*day + 9*hour, false, monday + 7*day + 8*hour},
		{monday + 6*day + 18*hour, false, monday + 7*day + 8*hour},
		{monday - 7*day + 8*hour, true, monday - 7*day + 18*hour},
		{monday - 1, false, monday + 8*hour},
	} {
		wantIn(t, s, x.sec, 0, x.in)
		wantEdge(t, s, x.sec, 0, x.edge)
	}
}

// A span may go over midnight, over a weekend, over years; a beginning
// within it, or an end outside of it, is no edge.
func TestP9LongSpans(t *testing.T) {
	night := spanOf(t, "0 22 * * *", "30 6 * * *")
	wantIn(t, night, monday, 0, true)
	wantEdge(t, night, monday, 0, monday+6*hour+30*minute)
	wantIn(t, night, monday+6*hour+30*minute, 0, false)
	wantEdge(t, night, monday+6*hour+30*minute, 0, monday+22*hour)

	week := spanOf(t, "*/10 8-17 * * *", "0 18 * * 5")
	wantIn(t, week, monday+3, 0, true)
	wantEdge(t, week, monday+3, 0, monday+4*day+18*hour)
	wantIn(t, week, monday+5*day, 0, false)
	wantEdge(t, week, monday+5*day, 0, monday+5*day+8*hour)

	hours := spanOf(t, "0 0 1 * *", "*/15 * * * *")
	wantIn(t, hours, sec(1970, 2, 1, 0, 0)-1, 0, false)
	wantEdge(t, hours, sec(1970, 1, 1, 1, 5), 0, sec(1970, 2, 1, 0, 0))
	wantIn(t, hours, sec(1970, 2, 1, 0, 14), 0, true)
	wantEdge(t, hours, sec(1970, 2, 1, 0, 14), 0, sec(1970, 2, 1, 0, 15))

	leap := spanOf(t, "0 0 29 2 *", "0 0 1 3 *")
	wantEdge(t, leap, sec(1896, 3, 1, 0, 0), 0, sec(1904, 2, 29, 0, 0))
	wantIn(t, leap, sec(1904, 2, 29, 23, 59), 0, true)
	wantEdge(t, leap, sec(1904, 2, 29, 23, 59), 0, sec(1904, 3, 1, 0, 0))
	years := spanOf(t, "0 0 1 3 *", "0 0 29 2 *")
	wantIn(t, years, sec(1904, 2, 28, 23, 59), 0, true)
	wantEdge(t, years, sec(1896, 3, 1, 0, 0), 0, sec(1904, 2, 29, 0, 0))
	wantIn(t, years, sec(1904, 2, 29, 0, 0), 0, false)
}

// Where one ends and one begins at the same time, it is in.
func TestP9EndThatIsABeginning(t *testing.T) {
	same := spanOf(t, "0 8 * * *", "0 8 * * *")
	for _, at := range []int{monday, monday + 8*hour - 1, monday + 8*hour, monday + 9*hour} {
		wantIn(t, same, at, 0, true)
		wantNoEdge(t, same, at, 0)
	}
	s := spanOf(t, "0 8,12 * * *", "0 8,12,16 * * *")
	wantIn(t, s, monday+12*hour, 0, true)
	wantEdge(t, s, monday+7*hour, 0, monday+8*hour)
	wantEdge(t, s, monday+8*hour, 0, monday+16*hour)
	wantEdge(t, s, monday+8*hour-1, 0, monday+8*hour)
	wantEdge(t, s, monday+16*hour, 0, monday+day+8*hour)
}

// Each minute from 0:00 to 3:59 is an end and a beginning: 4:00 is an end
// alone, and 200 steps behind 0:40.
func TestP9TwoHundredSteps(t *testing.T) {
	s := spanOf(t, "* 0-3 * * *", "* * * * *")
	wantIn(t, s, monday+40*minute-1, 0, true)
	wantNoEdge(t, s, monday, 0)
	wantNoEdge(t, s, monday+39*minute, 0)
	wantNoEdge(t, s, monday+40*minute-1, 0)
	wantEdge(t, s, monday+40*minute, 0, monday+4*hour)
	wantEdge(t, s, monday+41*minute-1, 0, monday+4*hour)
	wantEdge(t, s, monday+4*hour-1, 0, monday+4*hour)
	wantEdge(t, s, monday+4*hour, 0, monday+day)

	// 200 days: what is counted is times, not minutes.
	days := spanOf(t, "0 0 * 2-12 *", "0 0 * * *")
	first := sec(1971, 1, 1, 0, 0)
	wantNoEdge(t, days, first-201*day, 0)
	wantNoEdge(t, days, first-200*day-1, 0)
	wantEdge(t, days, first-200*day, 0, first)
	wantEdge(t, days, first, 0, sec(1971, 2, 1, 0, 0))
}

// The clock of both crons is ahead.
func TestP9Shift(t *testing.T) {
	s := spanOf(t, "0 8 * * 1-5", "0 18 * * *")
	for shift := -api.MaxShift; shift <= api.MaxShift; shift++ {
		a, b := monday+8*hour-shift*minute, monday+18*hour-shift*minute
		wantIn(t, s, a-1, shift, false)
		wantIn(t, s, a, shift, true)
		wantIn(t, s, b-1, shift, true)
		wantIn(t, s, b, shift, false)
		wantEdge(t, s, a-1, shift, a)
		wantEdge(t, s, a, shift, b)
		wantEdge(t, s, b, shift, a+day)
	}
}

// A cron whose day no month has begins, and ends, nothing.
func TestP9NeverBegunNeverEnded(t *testing.T) {
	const never = "0 0 31 2 *"
	for _, at := range []int{0, monday, sec(2000, 2, 29, 0, 0), api.MaxTime, -api.MaxTime} {
		for _, end := range []string{never, "0 18 * * *", "* * * * *"} {
			wantIn(t, spanOf(t, never, end), at, 0, false)
			wantNoEdge(t, spanOf(t, never, end), at, 0)
		}
	}
	s := spanOf(t, "0 8 * * *", never)
	wantIn(t, s, monday, 0, true)
	wantNoEdge(t, s, monday, 0)
}

// Nothing has begun ahead of the first time there is, and nothing ends
// behind the last one.
func TestP9EndsOfTime(t *testing.T) {
	const low, top = 40 - api.MaxTime, api.MaxTime - 40 // minutes begin at these
	s := spanOf(t, "* * * * *", "0 0 31 2 *")
	for _, shift := range []int{0, 1, -1, 900, -900} {
		wantIn(t, s, -api.MaxTime, shift, false)
		wantEdge(t, s, -api.MaxTime, shift, low)
		wantIn(t, s, low-1, shift, false)
		wantIn(t, s, low, shift, true)
		wantIn(t, s, api.MaxTime, shift, true)
		wantNoEdge(t, s, api.MaxTime, shift)
	}
	// -MaxTime is 14:13:20, the 8:00 ahead of it is none that there is.
	s = spanOf(t, "0 8 * * *", "0 18 * * *")
	morning := -api.MaxTime + 40 + 46*minute + 17*hour
	wantIn(t, s, -api.MaxTime, 0, false)
	wantEdge(t, s, -api.MaxTime, 0, morning)
	wantIn(t, s, morning-1, 0, false)
	wantEdge(t, s, morning, 0, morning+10*hour)
	// MaxTime is 9:46:40.
	wantIn(t, s, api.MaxTime, 0, true)
	wantNoEdge(t, s, api.MaxTime, 0)
	s = spanOf(t, "0 0 * * *", "0,46 9 * * *")
	wantEdge(t, s, top-46*minute-1, 0, top-46*minute)
	s = spanOf(t, "0 0 * * *", "46 9 * * *")
	wantEdge(t, s, top-1, 0, top)
	wantIn(t, s, top, 0, false)
	wantNoEdge(t, s, top, 0)
	s = spanOf(t, "0 0 * * *", "47 9 * * *")
	wantNoEdge(t, s, top, 0)
	// The steps end early, too, where time does.
	s = spanOf(t, "* * * * *", "* * * * *")
	wantNoEdge(t, s, top-5*minute, 0)
}

func wrongCrons(t testing.TB) []api.Cron {
	good := spanOf(t, "* * * * *", "* * * * *").Start
	bad := []api.Cron{{}, {AnyDay: true, AnyWeek: true}, good, good, good, good, good, good, good}
	bad[2].Minute |= 1 << 60
	bad[3].Hour = 0
	bad[4].Day |= 1
	bad[5].Month = 1
	bad[6].Week |= 1 << 7
	bad[7].Day ^= 2
	bad[8].Week ^= 1
	return bad
}

func TestP9Check(t *testing.T) {
	good := spanOf(t, "0 8 * * 1-5", "0 18 31 2 *")
	if e := Check(good); e != api.OK {
		t.Error(e)
	}
	for _, c := range wrongCrons(t) {
		for _, s := range []api.Span{{Start: c, End: good.End}, {Start: good.Start, End: c}, {Start: c, End: c}, {Start: c}, {End: c}} {
			if e := Check(s); e != api.ErrArg {
				t.Errorf("Check(%v) = %d", s, e)
			}
			wantErrors(t, s, 0, 0)
			wantErrors(t, s, api.MaxTime+1, 901)
		}
	}
}

func TestP9Errors(t *testing.T) {
	for _, s := range []api.Span{spanOf(t, "0 8 * * 1-5", "0 18 * * *"), spanOf(t, "0 0 31 2 *", "0 0 31 2 *")} {
		for _, at := range []int{-api.MaxTime - 1, api.MaxTime + 1, math.MinInt, math.MaxInt} {
			for _, shift := range []int{0, 900, -900, 901} {
				wantErrors(t, s, at, shift)
			}
		}
		for _, shift := range []int{-901, 901, math.MinInt, math.MaxInt} {
			for _, at := range []int{0, api.MaxTime, -api.MaxTime} {
				wantErrors(t, s, at, shift)
			}
		}
	}
}

// hits says at which of the minutes from begin on a cron matches.
func hits(c api.Cron, begin, minutes int) []bool {
	all := make([]bool, minutes)
	for i := range all {
		x, _ := civil.Of(begin+i*minute, 0)
		all[i], _ = cron.Match(c, x)
	}
	return all
}

// holdWalk holds In and Edge against a walk from minute to minute, on
// which what begins is in, and what ends and does not begin is out. It
// asks from the minute on at which both have been.
func holdWalk(t *testing.T, s api.Span, begin, minutes, shift int) {
	t.Helper()
	starts, ends := hits(s.Start, begin, minutes), hits(s.End, begin, minutes)
	states, first := make([]bool, minutes), 0
	in, began, ended := false, false, false
	for i := range minutes {
		began, ended = began || starts[i], ended || ends[i]
		in = starts[i] || in && !ends[i]
		states[i] = in
		if !began || !ended {
			first = i + 1
		}
	}
	for i := first; i < minutes; i += 1 + i%31 {
		at := begin + (i-shift)*minute
		late := at + i%minute
		wantIn(t, s, at, shift, states[i])
		wantIn(t, s, late, shift, states[i])
		marks, steps := starts, 0
		if states[i] {
			marks = ends
		}
		for j := i + 1; j < minutes && steps <= 200; j++ {
			if marks[j] {
				steps++
			}
			if steps > 200 {
				wantNoEdge(t, s, late, shift)
			} else if states[j] != states[i] {
				wantEdge(t, s, late, shift, at+(j-i)*minute)
				break
			}
		}
	}
}

func TestP9Walk(t *testing.T) {
	for _, x := range [][2]string{
		{"0 8 * * 1-5", "0 18 * * *"},
		{"0 22 * * *", "30 6 * * *"},
		{"*/7 * * * *", "*/3 * * * *"},
		{"* * * * *", "*/5 * * * *"},
		{"*/5 * * * *", "* * * * *"},
		{"* 0-3 * * *", "* * * * *"},
		{"* * * * 1", "* * * * *"},
		{"0 0 1,8 * 3", "0 12 * * *"},
		{"*/2 */2 * * *", "*/3 */3 * * *"},
		{"59 23 * * 0", "0 0 * * 1,4"},
		{"* * * * *", "* * * * *"},
	} {
		s := spanOf(t, x[0], x[1])
		for _, shift := range []int{0, 60, -900} {
			holdWalk(t, s, sec(2026, 11, 2, 0, 0), 17*24*60, shift)
		}
	}
}

// word is a set of numbers from least to most, some few or nearly all.
func word(r *rand.Rand, least, most int) (set uint64) {
	for n := least; n <= most; n++ {
		set |= 1 << n
	}
	switch r.IntN(4) {
	case 0:
		return set
	case 1:
		return set &^ (1 << (least + r.IntN(most-least+1)))
	}
	return 1<<(least+r.IntN(most-least+1)) | 1<<(least+r.IntN(most-least+1))
}

func randomCron(r *rand.Rand) api.Cron {
	return api.Cron{
		Minute: word(r, 0, 59), Hour: word(r, 0, 23), Day: word(r, 1, 31), Month: 1<<13 - 2, Week: word(r, 0, 6),
	}
}

func TestP9RandomWalks(t *testing.T) {
	r := rand.New(rand.NewPCG(9, 1))
	for range 60 {
		s := api.Span{Start: randomCron(r), End: randomCron(r)}
		if r.IntN(3) == 0 {
			// The walk is to meet times that both have.
			s.End.Minute |= s.Start.Minute
			s.End.Hour |= s.Start.Hour
		}
		holdWalk(t, s, (r.IntN(40000)-20000)*day, 15*24*60, r.IntN(1801)-900)
	}
}

// A panic at any of these ends the test; with an error, or without a
// time, every other result is its zero value.
func TestP1P2AnswersWhateverItIsGiven(t *testing.T) {
	crons := wrongCrons(t)
	for _, n := range []uint64{1, 2, 1 << 31, 1 << 63, math.MaxUint64} {
		crons = append(crons, api.Cron{Minute: n, Hour: n, Day: n, Month: n, Week: n})
	}
	some := spanOf(t, "* * * * *", "0 0 29 2 *")
	crons = append(crons, some.Start, some.End)
	numbers := []int{math.MinInt, math.MaxInt, 0, 59, -60, 900, -900, 901, -901, api.MaxTime, -api.MaxTime, api.MaxTime + 1, -api.MaxTime - 1}
	for _, a := range crons {
		for _, b := range crons {
			for _, at := range numbers {
				for _, shift := range numbers {
					s := api.Span{Start: a, End: b}
					in, e := In(s, at, shift)
					n, ok, f := Edge(s, at, shift)
					if e != f || e != api.OK && in || f != api.OK && ok || !ok && n != 0 {
						t.Errorf("%v, %d, %d: %v, %d; %d, %v, %d", s, at, shift, in, e, n, ok, f)
					}
				}
			}
		}
	}
}

// Other calls stand between the first answer and the second one, in
// another order, so that a thing kept between calls would be seen.
func TestP2NothingIsKept(t *testing.T) {
	type answers struct {
		in, ok bool
		edge   int
		e      [3]api.Errno
	}
	r := rand.New(rand.NewPCG(9, 2))
	spans := []api.Span{{}}
	for range 100 {
		spans = append(spans, api.Span{Start: randomCron(r), End: randomCron(r)})
	}
	get := func(i int) (a answers) {
		a.e[0] = Check(spans[i])
		a.in, a.e[1] = In(spans[i], i*1000000, i)
		a.edge, a.ok, a.e[2] = Edge(spans[i], i*1000000, i)
		return a
	}
	first := make([]answers, len(spans))
	for i := range spans {
		first[i] = get(i)
	}
	for i := len(spans) - 1; i >= 0; i-- {
		if a := get(i); a != first[i] {
			t.Errorf("%v: %v, and %v before", spans[i], a, first[i])
		}
	}
}

func FuzzP9(f *testing.F) {
	f.Add("0 8 * * 1-5", "0 18 * * *", 0, 0)
	f.Add("* 0-3 * * *", "* * * * *", monday, 900)
	f.Add("0 0 29 2 *", "0 0 1 3 *", -api.MaxTime, -900)
	f.Fuzz(func(t *testing.T, start, end string, at, shift int) {
		a, e := cron.Parse(start)
		b, g := cron.Parse(end)
		s := api.Span{Start: a, End: b}
		if _, h := civil.Of(at, shift); e != api.OK || g != api.OK || h != api.OK {
			wantErrors(t, s, at, shift)
			return
		}
		in, _ := In(s, at, shift)
		n, ok, _ := Edge(s, at, shift)
		if !ok {
			return
		}
		if n <= at {
			t.Fatalf("%v, %d, %d: the edge %d", s, at, shift, n)
		}
		// Up to the edge nothing changes, and at it, it does.
		wantIn(t, s, n-1, shift, in)
		wantIn(t, s, at+(n-1-at)/2, shift, in)
		wantIn(t, s, n, shift, !in)
	})
}
