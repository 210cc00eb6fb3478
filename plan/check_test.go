package plan

import (
	"math"
	"strings"
	"testing"

	"tidewheel/api"
	"tidewheel/cron"
)

func cronOf(t testing.TB, s string) api.Cron {
	t.Helper()
	c, e := cron.Parse(s)
	if e != api.OK {
		t.Fatal(s, e)
	}
	return c
}

func lag(target, active int) api.Trigger {
	return api.Trigger{Kind: 1, Target: target, Active: active}
}

func depth(target, active int) api.Trigger {
	return api.Trigger{Kind: 2, Target: target, Active: active}
}

func during(t testing.TB, target int, start, end string) api.Trigger {
	t.Helper()
	return api.Trigger{Kind: 3, Target: target, Span: api.Span{Start: cronOf(t, start), End: cronOf(t, end)}}
}

// good is a plan with a trigger of each kind, none of whose numbers hangs
// on another, but for Min and Max: these are as wide as they may be.
func good(t testing.TB) api.Plan {
	t.Helper()
	return api.Plan{
		Name: "p-1", Min: 0, Max: 50, Poll: 2, Cool: 6,
		Tolerance: 100, Back: 3, After: 2, Shift: -60,
		Up:       api.Pace{Window: 0, Pods: 2, Percent: 50, Period: 10},
		Down:     api.Pace{Window: 30, Pods: 1, Percent: 7, Period: 8},
		Triggers: []api.Trigger{lag(10, 5), during(t, 4, "0 8 * * 1-5", "0 18 * * *"), depth(7, 0)},
	}
}

func wantCheck(t testing.TB, p api.Plan, want api.Errno) {
	t.Helper()
	if e := Check(p); e != want {
		t.Errorf("Check(%v) = %d, not %d", p, e, want)
	}
	s, e := Print(p)
	if e != want || (s == "") != (want != api.OK) {
		t.Errorf("Print(%v) = %q, %d, not %d", p, s, e, want)
	}
}

// number is one of a plan's, and its bounds.
type number struct {
	at          *int
	least, most int
}

func paceNumbers(p *api.Pace) []number {
	return []number{{&p.Window, 0, 100000}, {&p.Pods, 0, 50}, {&p.Percent, 0, 1000}, {&p.Period, 0, 100000}}
}

// numbers of a plan as good makes it.
func numbers(p *api.Plan) []number {
	all := []number{
		{&p.Min, 0, 50}, {&p.Max, 1, 50}, {&p.Poll, 1, 100000}, {&p.Cool, 1, 100000},
		{&p.Tolerance, 0, 1000}, {&p.Back, 0, 50}, {&p.After, 0, 100}, {&p.Shift, -900, 900},
	}
	all = append(all, paceNumbers(&p.Up)...)
	all = append(all, paceNumbers(&p.Down)...)
	return append(all,
		number{&p.Triggers[0].Kind, 1, 2},
		number{&p.Triggers[0].Target, 1, 1000000},
		number{&p.Triggers[0].Active, 0, 1000000},
		number{&p.Triggers[1].Kind, 3, 3},
		number{&p.Triggers[1].Target, 1, 50},
		number{&p.Triggers[1].Active, 0, 0},
		number{&p.Triggers[2].Kind, 1, 2},
		number{&p.Triggers[2].Target, 1, 1000000},
		number{&p.Triggers[2].Active, 0, 1000000},
	)
}

func TestP12Good(t *testing.T) {
	wantCheck(t, good(t), api.OK)
	wantCheck(t, api.Plan{Name: "a", Max: 1, Poll: 1, Cool: 1}, api.OK)
	wantCheck(t, api.Plan{Name: "a", Max: 1, Poll: 1, Cool: 1, Triggers: []api.Trigger{}}, api.OK)
	wantCheck(t, api.Plan{}, api.ErrSyntax)
}

// Each number alone, at its edges and beyond them.
func TestP12EachNumber(t *testing.T) {
	p := good(t)
	for i, x := range numbers(&p) {
		old := *x.at
		for _, n := range []int{x.least, x.least + 1, x.most - 1, x.most} {
			if n < x.least || n > x.most {
				continue
			}
			*x.at = n
			wantCheck(t, p, api.OK)
		}
		for _, n := range []int{x.least - 1, x.most + 1, math.MinInt, math.MaxInt, x.least - 1<<32, x.most + 1<<32} {
			*x.at = n
			wantCheck(t, p, api.ErrArg)
			if t.Failed() {
				t.Fatalf("number %d as %d", i, n)
			}
		}
		*x.at = old
	}
}

// Whatever Min and Max are, and beyond their bounds.
func TestP12MinAndMax(t *testing.T) {
	p := good(t)
	for p.Min = -2; p.Min <= 52; p.Min++ {
		for p.Max = -2; p.Max <= 52; p.Max++ {
			want := api.ErrArg
			if p.Min >= 0 && p.Min <= p.Max && p.Max >= 1 && p.Max <= 50 {
				want = api.OK
			}
			wantCheck(t, p, want)
		}
	}
}

// Each byte alone, and at each place of a name.
func TestP12NameBytes(t *testing.T) {
	const letters = "abcdefghijklmnopqrstuvwxyz0123456789-"
	p := good(t)
	for b := range 256 {
		one := string([]byte{byte(b)})
		want := api.ErrSyntax
		if strings.Contains(letters, one) {
			want = api.OK
		}
		for i := range 4 {
			p.Name = "abc"[:i] + one + "abc"[i:]
			wantCheck(t, p, want)
		}
		p.Name = one
		wantCheck(t, p, want)
	}
	// The last one is a letter of another script that looks like an a.
	for _, p.Name = range []string{"é", "aé", "а"} {
		wantCheck(t, p, api.ErrSyntax)
	}
}

func TestP12NameLength(t *testing.T) {
	p := good(t)
	for n := range 40 {
		want := api.OK
		if n < 1 || n > 16 {
			want = api.ErrSyntax
		}
		p.Name = strings.Repeat("x", n)
		wantCheck(t, p, want)
	}
	p.Name = strings.Repeat("x", 1<<16+3)
	wantCheck(t, p, api.ErrSyntax)
}

func TestP12HowManyTriggers(t *testing.T) {
	p := good(t)
	for n := range 20 {
		want := api.OK
		if n > 5 {
			want = api.ErrLarge
		}
		p.Triggers = make([]api.Trigger, n)
		for i := range p.Triggers {
			p.Triggers[i] = lag(1, 0)
		}
		wantCheck(t, p, want)
	}
}

// The name is looked at first, then how many triggers there are.
func TestP12FirstError(t *testing.T) {
	for _, name := range []string{"p", "P", ""} {
		for _, many := range []int{5, 6} {
			for i := range 25 {
				p := good(t)
				*numbers(&p)[i].at = -901
				p.Name = name
				for len(p.Triggers) < many {
					p.Triggers = append(p.Triggers, lag(1, 0))
				}
				want := api.ErrArg
				if many > 5 {
					want = api.ErrLarge
				}
				if name != "p" {
					want = api.ErrSyntax
				}
				wantCheck(t, p, want)
			}
		}
	}
}

// A wrong trigger is found at each place.
func TestP12EachTrigger(t *testing.T) {
	wrong := []api.Trigger{
		{}, {Kind: 4, Target: 1}, {Kind: 3, Target: 1}, lag(0, 0), depth(0, 0), depth(1, -1), lag(1, 1000001),
	}
	for i := range 5 {
		for _, x := range wrong {
			p := good(t)
			p.Triggers = []api.Trigger{lag(1, 0), depth(1, 0), during(t, 1, "* * * * *", "* * * * *"), lag(2, 3), depth(3, 4)}
			wantCheck(t, p, api.OK)
			p.Triggers[i] = x
			wantCheck(t, p, api.ErrArg)
		}
	}
}

// A span's crons, each of which may be wrong, are cron.Check's business.
func TestP12SpanOfSpan(t *testing.T) {
	p := good(t)
	s := &p.Triggers[1].Span
	for _, c := range []*api.Cron{&s.Start, &s.End} {
		old := *c
		*c = api.Cron{}
		wantCheck(t, p, api.ErrArg)
		*c = old
		c.Minute = 1 << 60
		wantCheck(t, p, api.ErrArg)
		*c = old
		c.Day, c.AnyDay = 2, true
		wantCheck(t, p, api.ErrArg)
		c.AnyDay = false
		wantCheck(t, p, api.OK)
		*c = old
	}
	wantCheck(t, p, api.OK)
}

// Of the others each set is empty, and each mark is false.
func TestP12SpanOfOthers(t *testing.T) {
	c := cronOf(t, "* * * * *")
	for _, i := range []int{0, 2} {
		p := good(t)
		s := &p.Triggers[i].Span
		for _, wrong := range []api.Cron{
			c, {Minute: 1}, {Hour: 1 << 63}, {Day: 2}, {Month: 1}, {Week: 1}, {AnyDay: true}, {AnyWeek: true},
		} {
			s.Start = wrong
			wantCheck(t, p, api.ErrArg)
			s.Start = api.Cron{}
			s.End = wrong
			wantCheck(t, p, api.ErrArg)
			s.End = api.Cron{}
		}
		wantCheck(t, p, api.OK)
	}
}
