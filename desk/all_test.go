package desk

import (
	"errors"
	"fmt"
	"math/rand/v2"
	"regexp"
	"strconv"
	"strings"
	"sync"
	"testing"
	"unsafe"

	"tidewheel/api"
	"tidewheel/civil"
	"tidewheel/cron"
	"tidewheel/plan"
	"tidewheel/world"
)

// shape is a line as P25 writes it, with N for a number and W for WORD ..,
// and what it does.
type shape struct {
	line *regexp.Regexp
	do   func(m *model, n []int, words string) string
}

// model says P25 a second time: each line is held against how it is
// written, with one blank between its words.
type model struct {
	lines []string // of the plan's text
	world *world.World
}

func shapeOf(line string, do func(m *model, n []int, words string) string) shape {
	line = strings.ReplaceAll(line, "N", "(0|-?[1-9][0-9]{0,11})")
	return shape{regexp.MustCompile(`(?s)^` + strings.ReplaceAll(line, "W", "(.+)") + `$`), do}
}

// happening is a shape that needs a world; of two numbers the first is A.
func happening(line string, kind int) shape {
	return shapeOf(line, func(m *model, n []int, _ string) string {
		if m.world == nil {
			return "error 7"
		}
		x := api.Happens{Kind: kind, N: n[len(n)-1]}
		if len(n) > 1 {
			x.A = n[0]
		}
		return okOr(m.world.Do(x))
	})
}

func okOr(e api.Errno) string {
	if e != 0 {
		return fmt.Sprint("error ", int(e))
	}
	return "ok"
}

var shapes = []shape{
	shapeOf("date N N", func(_ *model, n []int, _ string) string {
		c, e := civil.Of(n[0], n[1])
		if e != 0 {
			return okOr(e)
		}
		return fmt.Sprintf("%d-%d-%d %d:%d:%d %d", c.Year, c.Month, c.Day, c.Hour, c.Minute, c.Second, c.Week)
	}),
	shapeOf("next N N W", func(_ *model, n []int, words string) string {
		c, e := cron.Parse(words)
		if e != 0 {
			return okOr(e)
		}
		if sec, there, e := cron.Next(c, n[0], n[1]); e != 0 || there {
			return map[bool]string{true: okOr(e), false: fmt.Sprint(sec)}[e != 0]
		}
		return "none"
	}),
	shapeOf("plan W", func(m *model, _ []int, words string) string {
		if len(strings.Join(m.lines, ""))+len(words)+1 > 2048 {
			return "error 2"
		}
		m.lines = append(m.lines, words+"\n")
		return "ok"
	}),
	shapeOf("clear", func(m *model, _ []int, _ string) string {
		m.lines = nil
		return "ok"
	}),
	shapeOf("show", func(m *model, _ []int, _ string) string {
		p, line, e := plan.Parse(strings.Join(m.lines, ""))
		if e != 0 {
			return fmt.Sprintf("error %d %d", e, line)
		}
		text, _ := plan.Print(p)
		return text + "ok"
	}),
	shapeOf("world N N N", func(m *model, n []int, _ string) string {
		p, line, e := plan.Parse(strings.Join(m.lines, ""))
		if e != 0 {
			return fmt.Sprintf("error %d %d", e, line)
		}
		w, e := world.New(p, n[0], n[1], n[2])
		if e == 0 {
			m.world = w
		}
		return okOr(e)
	}),
	shapeOf("state", func(m *model, _ []int, _ string) string {
		if m.world == nil {
			return "error 7"
		}
		pods := fmt.Sprint(m.world.Pods())
		return strings.TrimRight(fmt.Sprint(m.world.Now(), m.world.Target(), " ", colons(pods)), " ")
	}),
	shapeOf("asks", func(m *model, _ []int, _ string) string {
		if m.world == nil {
			return "error 7"
		}
		text := ""
		for _, r := range m.world.Requests() {
			text += fmt.Sprintf(" %d:%d", r.Source, r.Fate)
		}
		if text == "" {
			return "none"
		}
		return text[1:]
	}),
	happening("tick N", api.HTick), happening("make N N", api.HMake), happening("take N N", api.HTake),
	happening("put N", api.HPut), happening("lease N", api.HLease), happening("ack N", api.HAck),
	happening("fail N N", api.HFail), happening("start N", api.HStart), happening("ready N", api.HReady),
	happening("crash N", api.HCrash), happening("ask N N", api.HAsk), happening("done N", api.HDone),
	happening("pause N", api.HPause),
}

// colons makes of [{1 2 3} {4 5 6}] 1:2:3 4:5:6.
func colons(list string) string {
	list = strings.ReplaceAll(strings.Trim(list, "[{}]"), " ", ":")
	return strings.ReplaceAll(list, "}:{", " ")
}

var blanks = regexp.MustCompile(` +`)

func (m *model) run(text string) string {
	lines := strings.SplitAfter(text, "\n")
	if lines[len(lines)-1] == "" {
		lines = lines[:len(lines)-1]
	}
	if len(text) > 65536 || len(lines) > 200 {
		return "error 2\n"
	}
	answers := ""
	for _, line := range lines {
		line = strings.Trim(blanks.ReplaceAllString(strings.TrimSuffix(line, "\n"), " "), " ")
		if line != "" && line[0] != '#' {
			answers += m.answer(line) + "\n"
		}
	}
	return answers
}

func (m *model) answer(line string) string {
	for _, s := range shapes {
		found := s.line.FindStringSubmatch(line)
		if found == nil {
			continue
		}
		var numbers []int
		for _, word := range found[1:] {
			if n, err := strconv.Atoi(word); err == nil {
				numbers = append(numbers, n)
			}
		}
		return s.do(m, numbers, found[len(found)-1])
	}
	return "error 3"
}

// both runs a text at the desk and by the model.
func both(t testing.TB, text string) {
	t.Helper()
	var m model
	want := m.run(text)
	got := Run(text)
	if got == want {
		return
	}
	// The first answer that is another one says most.
	a, b := strings.SplitAfter(got, "\n"), strings.SplitAfter(want, "\n")
	for i := range min(len(a), len(b)) {
		if a[i] != b[i] {
			t.Fatalf("%q: answer %d is %q, not %q", text, i, a[i], b[i])
		}
	}
	t.Fatalf("%q: %q, not %q", text, got, want)
}

func pick[T any](r *rand.Rand, list ...T) T { return list[r.IntN(len(list))] }

// randomLine is one that mostly is written as it should be.
func randomLine(r *rand.Rand) string {
	n := func(most int) string { return strconv.Itoa(r.IntN(most)) }
	switch r.IntN(24) {
	case 0:
		return "date " + pick(r, n(1<<31), "-"+n(1<<31), "100000000000", "999999999999") + " " + pick(r, n(1000), "-60")
	case 1:
		return "next " + n(1<<31) + " " + pick(r, "0", "-60", "901") + " " + pick(r, "* * * * *", n(60)+" "+n(30)+" * * *", "0 0 31 2 *", n(60)+" * * *")
	case 2:
		return pick(r, "show", "show", "clear", "plan x", "plan depth 9 0")
	case 3:
		return "world " + n(4) + " " + n(4) + " " + pick(r, "0", "28790", "-5", "10000000001")
	case 4:
		return "make " + n(4) + " " + n(40)
	case 5:
		return "take " + n(4) + " " + n(40)
	case 6, 7:
		return "put " + n(30)
	case 8:
		return "lease " + n(9)
	case 9:
		return "ack " + n(9)
	case 10:
		return "fail " + n(4) + " " + n(3)
	case 11, 12:
		return "start " + n(9)
	case 13, 14:
		return "ready " + n(9)
	case 15:
		return pick(r, "crash ", "done ") + n(9)
	case 16, 17:
		return "ask " + n(7) + " " + n(9)
	case 18:
		return "pause " + pick(r, "-1", n(10), "51")
	case 19:
		return pick(r, "state", "asks")
	case 20:
		return pick(r, "#", "# no", "", "  ", "x", "tick", "clear x", "state")
	}
	return "tick " + n(5)
}

func randomPlan(r *rand.Rand) []string {
	lines := []string{
		fmt.Sprintf("plan plan p %d %d %d %d", r.IntN(2), 1+r.IntN(9), 1+r.IntN(2), 1+r.IntN(6)),
		fmt.Sprintf("plan rest %d %d %d %d", r.IntN(200), r.IntN(9), r.IntN(3), 60*r.IntN(3)-60),
		fmt.Sprintf("plan up %d %d 0 %d", r.IntN(3), r.IntN(4), r.IntN(5)),
		fmt.Sprintf("plan down %d %d 50 %d", r.IntN(5), r.IntN(4), r.IntN(5)),
	}
	for range r.IntN(4) {
		lines = append(lines, pick(r, fmt.Sprint("plan depth ", 1+r.IntN(20), " 0"), fmt.Sprint("plan lag ", 1+r.IntN(20), " 3"), "plan span 3 0 8 * * * / 0,10 8-18 * * *"))
	}
	return append(lines, "show", fmt.Sprintf("world %d %d %d", 1+r.IntN(3), r.IntN(4), 28790))
}

// spoilt has a byte of a line changed, taken away, or one more.
func spoilt(r *rand.Rand, line string) string {
	at := r.IntN(len(line) + 1)
	ahead, behind := line[:at], line[at:]
	if behind != "" && r.IntN(3) > 0 {
		behind = behind[1:]
	}
	return ahead + pick(r, "", " ", "  ", "0", "-", "1", "x", "#", "\t", "\x00", "\xff", "\n") + behind
}

func TestP25RandomTexts(t *testing.T) {
	r := rand.New(rand.NewPCG(25, 1))
	for range 4000 {
		var lines []string
		if r.IntN(8) > 0 {
			lines = randomPlan(r)
		}
		for range r.IntN(195) {
			lines = append(lines, randomLine(r))
		}
		for range r.IntN(9) * r.IntN(2) {
			if i := r.IntN(len(lines) + 1); i < len(lines) {
				lines[i] = spoilt(r, lines[i])
			}
		}
		both(t, strings.Join(lines, "\n")+pick(r, "", "\n"))
	}
}

// Every line of a list with a byte of it changed to every byte.
func TestP25EveryByte(t *testing.T) {
	before := strings.Join([]string{"plan plan p 0 9 1 6", "plan rest 0 0 0 0", "plan up 0 0 0 0", "plan down 0 0 0 0", "world 2 1 0", "tick 1", ""}, "\n")
	for _, line := range []string{"date 10 -60", "next 0 0 0 6 * * *", "plan lag 1 0", "clear", "show", "world 2 1 0", "tick 10", "ask 1 20", "state", "asks", "# no"} {
		for at := range len(line) + 1 {
			for b := range 256 {
				text := line[:at] + string([]byte{byte(b)})
				both(t, before+text+line[at:]+"\nshow\nstate\nasks")
				if at < len(line) {
					both(t, before+text+line[at+1:]+"\nshow\nstate\nasks")
				}
			}
		}
	}
}

// A panic at any of these ends the test.
func TestP1AnswersWhateverItIsGiven(t *testing.T) {
	r := rand.New(rand.NewPCG(25, 2))
	words := []string{
		"date", "next", "plan", "clear", "show", "world", "tick", "put", "lease", "ack", "start", "ready", "crash", "done", "pause",
		"make", "take", "fail", "ask", "state", "asks", "#", "", " ", "\n", "\x00", "\xff", "\xc3", "-", "0", "1", "-1", "*", "/", "50", "51",
		"200", "201", "1000", "1001", "100000", "100001", "10000000001", "100000000001", "999999999999", "-999999999999", "1000000000000",
		strings.Repeat("9", 99), strings.Repeat("x", 300),
	}
	for range 3000 {
		var text strings.Builder
		for _, line := range randomPlan(r) {
			text.WriteString(line + "\n")
		}
		for range 180 {
			for range r.IntN(5) {
				text.WriteString(pick(r, words...) + " ")
			}
			text.WriteString("\n")
		}
		both(t, text.String())
	}
	for range 3000 {
		bytes := make([]byte, r.IntN(3000))
		for i := range bytes {
			bytes[i] = byte(r.Uint32())
		}
		both(t, string(bytes))
	}
}

// The longest run: as many ticks as there may be, with triggers of which
// each has to look far back.
func TestP1Ends(t *testing.T) {
	text := "plan plan p 0 50 1 6\nplan rest 0 0 0 0\nplan up 100000 50 0 100000\nplan down 100000 50 0 100000\n"
	text += strings.Repeat("plan span 4 0 0 31 2 * / 0 0 30 2 *\n", 5) + "world 1 1 0\n"
	wantRun(t, text+strings.Repeat("tick 1000\n", 189)+"state", strings.Repeat("ok\n", 199)+"189000 0\n")
}

// What one run does is not there for another, at once or beside it.
func TestP2NothingIsKept(t *testing.T) {
	first := "plan plan p 1 9 1 6\nplan rest 0 0 0 0\nplan up 0 0 0 0\nplan down 0 0 0 0\nworld 1 1 0\nask 0 9\ntick 1\nstate\nasks\nshow\n"
	want := Run(first)
	wantRun(t, "state\nshow\n", "error 7\nerror 3 1\n")
	wantRun(t, first, want)
	var group sync.WaitGroup
	for range 8 {
		group.Go(func() {
			for range 50 {
				if got := Run(first); got != want {
					t.Errorf("%q, not %q", got, want)
				}
			}
		})
	}
	group.Wait()
}

// An answer shares no memory with the text, also where it tells what
// stands there.
func TestP2AnswersAreNewMemory(t *testing.T) {
	text := strings.Clone("plan plan p 1 9 1 6\nplan rest 0 0 0 0\nplan up 0 0 0 0\nplan down 0 0 0 0\nshow\n")
	answer := Run(text)
	from, at := uintptr(unsafe.Pointer(unsafe.StringData(text))), uintptr(unsafe.Pointer(unsafe.StringData(answer)))
	if at+uintptr(len(answer)) > from && from+uintptr(len(text)) > at {
		t.Error("the answer lies in the text")
	}
	bytes := []byte(text)
	again := Run(unsafe.String(&bytes[0], len(bytes)))
	if string(bytes) != text || again != answer {
		t.Errorf("%q was %q", bytes, text)
	}
	clear(bytes)
	if again != answer {
		t.Errorf("%q was %q", again, answer)
	}
}

// Faults are errors: that of a line is the one behind it, too.
func TestP25FaultsAreToldApart(t *testing.T) {
	var plain fault
	var atLine lineFault
	alone, inPlan := error(fault{api.ErrArg}), error(lineFault{fault{api.ErrSyntax}, 4})
	if !errors.As(alone, &plain) || plain.errno != api.ErrArg || errors.As(alone, &atLine) {
		t.Error(alone)
	}
	if !errors.As(inPlan, &plain) || plain.errno != api.ErrSyntax || !errors.As(inPlan, &atLine) || atLine.line != 4 {
		t.Error(inPlan)
	}
	if asError(api.OK) != nil || !errors.Is(inPlan, fault{api.ErrSyntax}) {
		t.Error(asError(api.OK), inPlan)
	}
	for err, want := range map[error]string{alone: "error 1", inPlan: "error 3 at line 4"} {
		if err.Error() != want {
			t.Errorf("%q, not %q", err.Error(), want)
		}
	}
}

func FuzzP25(f *testing.F) {
	f.Add("date 0 60\nnext 0 60 30 6 * * *\ntick 1\n# no\n\nshow")
	f.Add("plan plan p 0 3 1 5\nplan rest 0 0 0 0\nplan up 0 0 0 0\nplan down 0 0 0 0\nplan depth 10 0\nshow\nworld 1 1 0\nput 12\ntick 1\nstate\nstart 1\nready 1\nask 1 5\nask 1 5\nasks\ndone 1\ncrash 1\nlease 2\nack 1\nmake 0 4\ntake 0 2\nfail 0 1\npause 3\nclear\n")
	f.Add("plan x\nshow\n  clear  \ndate -0 1\ndate 01 1\ndate 1000000000000 0\n\xff #\r\n#")
	f.Fuzz(func(t *testing.T, text string) { both(t, text) })
}
