package plan

import (
	"strings"

	"tidewheel/api"
	"tidewheel/cron"
)

// headLines is how many lines stand ahead of the triggers.
const headLines = 4

const maxDigits = 7

// parseLine reads a line, without its byte 10, into p.
func parseLine(p *api.Plan, line int, text string) bool {
	all := strings.Split(text, " ")
	first, words := all[0], all[1:]
	switch line {
	case 1:
		return first == "plan" && parsePlan(p, words)
	case 2:
		return first == "rest" && parseNumbers(words, &p.Tolerance, &p.Back, &p.After, &p.Shift)
	case 3:
		return first == "up" && parsePace(&p.Up, words)
	case 4:
		return first == "down" && parsePace(&p.Down, words)
	}
	t, ok := parseTrigger(first, words)
	p.Triggers = append(p.Triggers, t)
	return ok
}

func parsePlan(p *api.Plan, words []string) bool {
	if len(words) < 1 || !isName(words[0]) {
		return false
	}
	// A piece of the text would share its memory.
	p.Name = strings.Clone(words[0])
	return parseNumbers(words[1:], &p.Min, &p.Max, &p.Poll, &p.Cool)
}

func parsePace(p *api.Pace, words []string) bool {
	return parseNumbers(words, &p.Window, &p.Pods, &p.Percent, &p.Period)
}

func parseTrigger(first string, words []string) (t api.Trigger, ok bool) {
	switch first {
	case "lag":
		t.Kind = api.KLag
		ok = parseNumbers(words, &t.Target, &t.Active)
	case "depth":
		t.Kind = api.KDepth
		ok = parseNumbers(words, &t.Target, &t.Active)
	case "span":
		t.Kind = api.KSpan
		ok = parseSpan(&t, words)
	}
	return t, ok
}

func parseSpan(t *api.Trigger, words []string) bool {
	if len(words) < 1 || !parseNumbers(words[:1], &t.Target) {
		return false
	}
	// Where no word is `/` the end is empty, which is no cron.
	start, end, _ := strings.Cut(strings.Join(words[1:], " "), " / ")
	var e, f api.Errno
	t.Span.Start, e = cron.Parse(start)
	t.Span.End, f = cron.Parse(end)
	return e == api.OK && f == api.OK
}

// parseNumbers reads a number for each place, of just as many words.
func parseNumbers(words []string, places ...*int) bool {
	if len(words) != len(places) {
		return false
	}
	for i, word := range words {
		n, ok := parseNumber(word)
		if !ok {
			return false
		}
		*places[i] = n
	}
	return true
}

// parseNumber goes digit by digit, since strconv would take a `+` and
// noughts ahead, too.
func parseNumber(word string) (int, bool) {
	digits, below := strings.CutPrefix(word, "-")
	if !within(len(digits), 1, maxDigits) || digits[0] == '0' && (below || len(digits) > 1) {
		return 0, false
	}
	n := 0
	for _, d := range []byte(digits) {
		if d < '0' || d > '9' {
			return 0, false
		}
		n = 10*n + int(d-'0')
	}
	if below {
		n = -n
	}
	return n, true
}
