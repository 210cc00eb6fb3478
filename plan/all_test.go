package plan

import (
	"math"
	"math/rand/v2"
	"reflect"
	"regexp"
	"slices"
	"strconv"
	"strings"
	"testing"

	"tidewheel/api"
	"tidewheel/cron"
)

// The lines as P13 writes them, with N for a number.
var shapes = []*regexp.Regexp{
	shape("plan ([a-z0-9-]{1,16}) N N N N"), shape("rest N N N N"), shape("up N N N N"), shape("down N N N N"),
	shape("(lag) N N"), shape("(depth) N N"), shape("(span) N (.*?) / (.*)"),
}

func shape(line string) *regexp.Regexp {
	return regexp.MustCompile(`(?s)^` + strings.ReplaceAll(line, "N", "(0|-?[1-9][0-9]{0,6})") + `\n$`)
}

// numbersOf is what of some words is a number, which the rest isn't.
func numbersOf(words []string) (all []int) {
	for _, word := range words {
		if n, err := strconv.Atoi(word); err == nil {
			all = append(all, n)
		}
	}
	return all
}

// model says P13's words on Parse once more: line by line, each held
// against how it is written, then Check.
func model(s string) (api.Plan, int, api.Errno) {
	if len(s) > 2048 {
		return api.Plan{}, 0, api.ErrLarge
	}
	all := strings.SplitAfter(s, "\n")
	if all[len(all)-1] == "" {
		all = all[:len(all)-1]
	}
	var p api.Plan
	for i := range max(4, len(all)) {
		if i >= len(all) || !modelLine(&p, i, all[i]) {
			return api.Plan{}, i + 1, api.ErrSyntax
		}
	}
	if e := Check(p); e != api.OK {
		return api.Plan{}, 0, e
	}
	return p, 0, api.OK
}

func modelLine(p *api.Plan, i int, line string) bool {
	if i >= 4 {
		t, ok := modelTrigger(line)
		p.Triggers = append(p.Triggers, t)
		return ok
	}
	found := shapes[i].FindStringSubmatch(line)
	if found == nil {
		return false
	}
	n := numbersOf(found[len(found)-4:])
	switch i {
	case 0:
		p.Name, p.Min, p.Max, p.Poll, p.Cool = found[1], n[0], n[1], n[2], n[3]
	case 1:
		p.Tolerance, p.Back, p.After, p.Shift = n[0], n[1], n[2], n[3]
	case 2:
		p.Up = api.Pace{Window: n[0], Pods: n[1], Percent: n[2], Period: n[3]}
	case 3:
		p.Down = api.Pace{Window: n[0], Pods: n[1], Percent: n[2], Period: n[3]}
	}
	return true
}

func modelTrigger(line string) (api.Trigger, bool) {
	for kind, shape := range shapes[4:] {
		found := shape.FindStringSubmatch(line)
		if found == nil {
			continue
		}
		t := api.Trigger{Kind: kind + 1, Target: numbersOf(found[2:3])[0]}
		if t.Kind != 3 {
			t.Active = numbersOf(found[3:])[0]
			return t, true
		}
		var e, f api.Errno
		t.Span.Start, e = cron.Parse(found[3])
		t.Span.End, f = cron.Parse(found[4])
		return t, e == api.OK && f == api.OK
	}
	return api.Trigger{}, false
}

// holdParse holds Parse against the model, and what it read against Print.
func holdParse(t testing.TB, s string) {
	t.Helper()
	p, at, e := Parse(s)
	want, wantAt, wantE := model(s)
	if !same(p, want) || at != wantAt || e != wantE {
		t.Errorf("Parse(%q) = %v, %d, %d, not %v, %d, %d", s, p, at, e, want, wantAt, wantE)
	}
	if e == api.OK {
		holdPrint(t, p)
	} else if !reflect.DeepEqual(p, api.Plan{}) {
		t.Errorf("Parse(%q) = %v with %d", s, p, e)
	}
}

// holdPrint holds that a plan's text, if it isn't too long, is read as
// that plan.
func holdPrint(t testing.TB, p api.Plan) {
	t.Helper()
	s, e := Print(p)
	if e != Check(p) || (e == api.OK) != (s != "") {
		t.Errorf("Print(%v) = %q, %d, and Check tells %d", p, s, e, Check(p))
	}
	if e == api.OK && len(s) <= 2048 {
		wantParse(t, s, p)
	}
}

// Each byte at each place of a text, in place of what is there, and more.
func TestP1P13ParsesAnyBytes(t *testing.T) {
	for i := range len(goodText) + 1 {
		for b := range 256 {
			one := string([]byte{byte(b)})
			holdParse(t, goodText[:i]+one+goodText[i:])
			if i < len(goodText) {
				holdParse(t, goodText[:i]+one+goodText[i+1:])
			}
		}
		holdParse(t, goodText[:i])
		holdParse(t, goodText[i:])
		for n := range 9 {
			holdParse(t, goodText[:i]+goodText[min(i+n, len(goodText)):])
		}
	}
}

// Texts of words that may stand in a text, most of them near to a plan's.
func TestP13RandomTexts(t *testing.T) {
	r := rand.New(rand.NewPCG(13, 1))
	words := []string{"plan", "rest", "up", "down", "lag", "depth", "span", "/", "*", "*/5", "1-3", "p", "", " ", "\n", "0", "1", "-1", "01", "50", "1000001", "12345678", "-", "x"}
	plans := 0
	for range 200000 {
		all := lines()
		for range r.IntN(4) {
			i := r.IntN(len(all))
			line := strings.Split(all[i], " ")
			k := r.IntN(len(line))
			switch r.IntN(4) {
			case 0:
				line[k] = words[r.IntN(len(words))]
			case 1:
				line = slices.Insert(line, k, words[r.IntN(len(words))])
			case 2:
				line = slices.Delete(line, k, k+1)
			case 3:
				line[k] = strconv.Itoa(r.IntN(60))
			}
			all[i] = strings.Join(line, " ")
		}
		s := join(all...)
		if _, _, e := Parse(s); e == api.OK {
			plans++
		}
		holdParse(t, s)
	}
	if plans < 20000 {
		t.Error("too few plans:", plans)
	}
}

func randomCron(r *rand.Rand) api.Cron {
	const days, week = 1<<32 - 2, 1<<7 - 1
	some := func(all uint64, always int) uint64 { return all & (r.Uint64()&r.Uint64()>>r.IntN(9) | 1<<always) }
	c := api.Cron{Minute: some(1<<60-1, 59), Hour: some(1<<24-1, 0), Day: some(days, 31), Month: some(1<<13-2, 1), Week: some(week, 3)}
	if r.IntN(2) == 0 {
		c.Day, c.AnyDay = days, true
	}
	if r.IntN(2) == 0 {
		c.Week, c.AnyWeek = week, true
	}
	return c
}

// randomPlan is one whose numbers are within their bounds, but perhaps for
// one of them.
func randomPlan(r *rand.Rand) api.Plan {
	p := api.Plan{Name: "p" + strconv.Itoa(r.IntN(1000)), Triggers: make([]api.Trigger, 3)}
	for _, x := range numbers(&p) {
		*x.at = x.least + r.IntN(x.most-x.least+1)
	}
	p.Min, p.Max = min(p.Min, p.Max), max(p.Min, p.Max)
	p.Triggers[1].Span = api.Span{Start: randomCron(r), End: randomCron(r)}
	if r.IntN(2) == 0 {
		all := numbers(&p)
		x := all[r.IntN(len(all))]
		*x.at = []int{x.least - 1, x.most + 1, -x.most, 0, math.MaxInt, math.MinInt}[r.IntN(6)]
	}
	r.Shuffle(3, func(i, k int) { p.Triggers[i], p.Triggers[k] = p.Triggers[k], p.Triggers[i] })
	p.Triggers = p.Triggers[:r.IntN(4)]
	return p
}

func TestP12P13RandomPlans(t *testing.T) {
	r := rand.New(rand.NewPCG(13, 2))
	count := map[api.Errno]int{}
	for range 50000 {
		p := randomPlan(r)
		count[Check(p)]++
		holdPrint(t, p)
	}
	if count[api.OK] < 10000 || count[api.ErrArg] < 10000 {
		t.Error(count)
	}
}

// A panic at any of these ends the test.
func TestP1AnswersWhateverItIsGiven(t *testing.T) {
	all := []int{math.MinInt, math.MinInt + 1, -1 << 32, -901, -1, 0, 1, 2, 3, 4, 50, 51, 1000001, 1 << 32, math.MaxInt - 1, math.MaxInt}
	for _, n := range all {
		for _, m := range all {
			c := api.Cron{Minute: uint64(n), Hour: uint64(m), Day: uint64(n), Month: uint64(m), Week: uint64(n), AnyDay: m > 0, AnyWeek: n > 0}
			x := api.Trigger{Kind: n, Target: m, Active: n, Span: api.Span{Start: c, End: c}}
			p := api.Plan{
				Name: strings.Repeat("\xff", n&31), Min: n, Max: m, Poll: n, Cool: m, Tolerance: n, Back: m, After: n, Shift: m,
				Up: api.Pace{Window: n, Pods: m, Percent: n, Period: m}, Down: api.Pace{Window: m, Pods: n, Percent: m, Period: n},
				Triggers: []api.Trigger{x},
			}
			holdPrint(t, p)
			p = good(t)
			for i := range p.Triggers {
				p.Triggers[i] = x
				holdPrint(t, p)
			}
		}
	}
}

// What is handed in stays as it is, with the room behind the triggers.
func TestP2HandedInStays(t *testing.T) {
	p := good(t)
	room := make([]api.Trigger, 8)
	for i := range room {
		room[i] = lag(100+i, i)
	}
	copy(room, p.Triggers)
	p.Triggers = room[:3]
	old := slices.Clone(room)
	wantCheck(t, p, api.OK)
	wantPrint(t, p, goodText)
	if !slices.Equal(room, old) || !same(p, good(t)) {
		t.Errorf("%v, %v, not %v", p, room, old)
	}
}

// What one answer's triggers, spare room included, are changed to is not
// seen in another answer.
func TestP2ParseIsNewMemory(t *testing.T) {
	p, _, _ := Parse(goodText)
	q, _, _ := Parse(goodText)
	room := p.Triggers[:cap(p.Triggers)]
	for i := range room {
		room[i] = api.Trigger{Kind: 99}
	}
	r, _, _ := Parse(goodText)
	if !same(q, good(t)) || !same(r, good(t)) {
		t.Error(q, r)
	}
	if got := cap(q.Triggers); got > len(q.Triggers) && q.Triggers[:got][got-1] != (api.Trigger{}) {
		t.Error(q.Triggers[:got])
	}
}

// Other calls stand between the first answer and the second one, in
// another order, so that a thing kept between calls would be seen.
func TestP2NothingIsKept(t *testing.T) {
	texts := []string{goodText, head, "", "x", head + "lag 1 1\n", head + "x\n", strings.Repeat("lag 1 1\n", 300), head + strings.Repeat("lag 1 1\n", 6), goodText + "depth 1 1\n"}
	type answer struct {
		p api.Plan
		n int
		e api.Errno
	}
	get := func(s string) (a answer) {
		a.p, a.n, a.e = Parse(s)
		return a
	}
	var first []answer
	for _, s := range texts {
		first = append(first, get(s))
	}
	for i, s := range slices.Backward(texts) {
		if a := get(s); !reflect.DeepEqual(a, first[i]) {
			t.Errorf("Parse(%q) = %v, and %v before", s, a, first[i])
		}
	}
}

func FuzzP13(f *testing.F) {
	for _, s := range []string{goodText, head, "", head + "span 9 */5 * 1,2 * * / 0-9 * * * 6\nlag 01 1\n", "plan p -0 1 1 1\n", head + "lag 1 1"} {
		f.Add(s)
	}
	f.Fuzz(func(t *testing.T, s string) { holdParse(t, s) })
}
