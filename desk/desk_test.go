package desk

import (
	"fmt"
	"strings"
	"testing"
)

// talk says lines, each with its answer behind it ("": none), and holds
// what the desk answers to all up to each of them against these.
func talk(t testing.TB, pairs ...string) {
	t.Helper()
	said, want := "", ""
	for i := 0; i < len(pairs); i += 2 {
		said += pairs[i] + "\n"
		if pairs[i+1] != "" {
			want += pairs[i+1] + "\n"
		}
		if got := Run(said); got != want {
			t.Fatalf("pair %d: %.300q: the answers are\n%s, not\n%s", i/2, pairs[i], got, want)
		}
	}
}

// each is some lines with one answer.
func each(answer string, lines ...string) []string {
	var pairs []string
	for _, line := range lines {
		pairs = append(pairs, line, answer)
	}
	return pairs
}

func wantRun(t testing.TB, text, want string) {
	t.Helper()
	if got := Run(text); got != want {
		t.Fatalf("Run(%.300q) = %.300q, not %.300q", text, got, want)
	}
}

// head is a plan that looks at each tick, with the triggers behind it.
func head(triggers ...string) []string {
	return each("ok", append([]string{"plan plan p 0 9 1 6", "plan rest 0 0 0 0", "plan up 0 0 0 0", "plan down 0 0 0 0"}, triggers...)...)
}

// begun is a desk with a world of a depth trigger: 2 partitions, pods that
// do one thing at once, from second 0 on.
func begun(pairs ...string) []string {
	return append(append(head("plan depth 10 0"), "world 2 1 0", "ok"), pairs...)
}

func TestP25Example(t *testing.T) {
	talk(t, "date 0 60", "1970-1-1 1:0:0 4")
}

func TestP25Lines(t *testing.T) {
	for text, want := range map[string]string{
		"":                          "",
		"\n":                        "",
		"\n\n\n":                    "",
		"clear":                     "ok\n",
		"clear\n":                   "ok\n",
		"clear\nclear":              "ok\nok\n",
		"\n\nclear\n\n\nclear\n\n":  "ok\nok\n",
		"clear\n ":                  "ok\n",
		"clear\r\nclear":            "error 3\nok\n",
		"clear\x00":                 "error 3\n",
		"x\nclear\ny":               "error 3\nok\nerror 3\n",
		"clear\n#":                  "ok\n",
		"tick 1\nshow\nworld 1 1 0": "error 7\nerror 3 1\nerror 3 1\n",
	} {
		wantRun(t, text, want)
	}
}

func TestP25Remarks(t *testing.T) {
	talk(t, each("", "#", "# no", "#no", "##", "   # clear", "#clear", "# tick x", " ", "    ", "#\xff")...)
	talk(t, each("error 3", "clear #", "clear#", "x #", "\t#", "\t", "date 0 0 # no", "\r")...)
}

func TestP25Words(t *testing.T) {
	talk(t,
		"   date    0     60   ", "1970-1-1 1:0:0 4",
		"  clear", "ok",
		"clear  ", "ok",
		"date\t0 60", "error 3",
		"date 0\t60", "error 3",
		"date 0 60\t", "error 3",
		"date 0\v60", "error 3",
		"date 0\u00a060", "error 3",
		"date 0 6\xff", "error 3",
		"Date 0 60", "error 3",
		"dat e 0 60", "error 3",
	)
}

// A text is large by its bytes and by its lines, those that are not
// answered included, and then nothing else is answered.
func TestP25Large(t *testing.T) {
	wantRun(t, "clear\n"+strings.Repeat("#", 65530), "ok\n")
	wantRun(t, "clear\n"+strings.Repeat("#", 65531), "error 2\n")
	wantRun(t, "clear\n"+strings.Repeat(" ", 65530), "ok\n")
	wantRun(t, strings.Repeat("x", 65536), "error 3\n")
	wantRun(t, strings.Repeat("x", 65537), "error 2\n")
	wantRun(t, strings.Repeat("\n", 65537), "error 2\n")
	wantRun(t, strings.Repeat("x", 1<<22), "error 2\n")

	wantRun(t, strings.Repeat("clear\n", 200), strings.Repeat("ok\n", 200))
	wantRun(t, strings.Repeat("clear\n", 199)+"clear", strings.Repeat("ok\n", 200))
	wantRun(t, strings.Repeat("clear\n", 201), "error 2\n")
	wantRun(t, strings.Repeat("clear\n", 200)+"clear", "error 2\n")
	wantRun(t, strings.Repeat("clear\n", 200)+" ", "error 2\n")
	wantRun(t, strings.Repeat("clear\n", 200)+"\n", "error 2\n")
	wantRun(t, strings.Repeat("\n", 200), "")
	wantRun(t, strings.Repeat("\n", 199)+"clear", "ok\n")
	wantRun(t, strings.Repeat("\n", 200)+"clear", "error 2\n")
	wantRun(t, strings.Repeat("#\n", 201), "error 2\n")
}

// A number of twelve digits is out of a date's bounds, but is a number.
func TestP25Numbers(t *testing.T) {
	for word, want := range map[string]string{
		"0":                                 "1970-1-1 0:0:0 4",
		"1":                                 "1970-1-1 0:0:1 4",
		"-1":                                "1969-12-31 23:59:59 3",
		"10":                                "1970-1-1 0:0:10 4",
		"100000000000":                      "5138-11-16 9:46:40 3",
		"-100000000000":                     "-1199-2-15 14:13:20 4",
		"999999999999":                      "error 1",
		"-999999999999":                     "error 1",
		"1000000000000":                     "error 3",
		"-1000000000000":                    "error 3",
		"1234567890123":                     "error 3",
		"000000000000":                      "error 3",
		"0000000000001":                     "error 3",
		"-0":                                "error 3",
		"00":                                "error 3",
		"01":                                "error 3",
		"-01":                               "error 3",
		"+1":                                "error 3",
		"+0":                                "error 3",
		"-":                                 "error 3",
		"--1":                               "error 3",
		"1-":                                "error 3",
		"1.0":                               "error 3",
		"1e3":                               "error 3",
		"0x1":                               "error 3",
		"1_000":                             "error 3",
		"1,":                                "error 3",
		"x":                                 "error 3",
		"1x":                                "error 3",
		"\uff11":                            "error 3",
		"1\x00":                             "error 3",
		"99999999999999999999999999":        "error 3",
		"-9223372036854775808":              "error 3",
		"9223372036854775807":               "error 3",
		"18446744073709551616":              "error 3",
		strings.Repeat("1", 60000):          "error 3",
		"-" + strings.Repeat("9", 13):       "error 3",
		strings.Repeat("0", 11) + "1":       "error 3",
		"-" + strings.Repeat("0", 11) + "1": "error 3",
	} {
		wantRun(t, "date "+word+" 0", want+"\n")
	}
	talk(t, "date 0 01", "error 3", "date 0 -0", "error 3", "date x x", "error 3")
}

// counts has, of each first word, how many numbers stand behind it.
var counts = map[string]int{
	"date": 2, "clear": 0, "show": 0, "world": 3,
	"tick": 1, "put": 1, "lease": 1, "ack": 1, "start": 1, "ready": 1, "crash": 1, "done": 1, "pause": 1,
	"make": 2, "take": 2, "fail": 2, "ask": 2, "state": 0, "asks": 0,
}

func lineOf(first string, numbers int) string {
	return first + strings.Repeat(" 1", numbers)
}

func TestP25CountsOfWords(t *testing.T) {
	for first, numbers := range counts {
		for n := range 6 {
			line := lineOf(first, n)
			if got := Run(line); n != numbers && got != "error 3\n" || n == numbers && got == "error 3\n" {
				t.Errorf("%s: %s", line, got)
			}
			talk(t, begun(line+" x", "error 3")...)
		}
	}
	talk(t, each("error 3", "next", "next 0", "next 0 0", "plan", "next 0 x 0 0 * * *", "next x 0 0 0 * * *", "plan   ")...)
	talk(t, "plan x", "ok", "plan x x x x x x x x", "ok", "next 0 0 * * * * *", "60")
}

func TestP25NoFirstWord(t *testing.T) {
	talk(t, begun(each("error 3", "x", "0", "ok", "none", "error", "ticks 1", "tic 1", "TICK 1", "Tick 1", "lag 1 0", "rest 0 0 0 0",
		"run 1", "late 1", "lags", "messages", "now", "count", "date# 0 0", "\xff", "-", "tick1")...)...)
}

func TestP25NeedsWorld(t *testing.T) {
	for first, numbers := range counts {
		want := "error 7"
		switch first {
		case "date":
			want = "1970-1-1 0:1:1 4"
		case "clear":
			want = "ok"
		case "show", "world":
			want = "error 3 1"
		}
		wantRun(t, lineOf(first, numbers), want+"\n")
	}
	// A plan is no world yet, nor is a world that could not be made.
	talk(t, append(head(), "state", "error 7", "world 0 1 0", "error 1", "state", "error 7", "world 1 1 0", "ok", "state", "0 0")...)
}

// Where several errors apply the one that is told first is the answer:
// that of the line, of the missing world, of a call.
func TestP25OrderOfErrors(t *testing.T) {
	talk(t,
		"tick x", "error 3",
		"tick", "error 3",
		"tick 0", "error 7",
		"tick 1001", "error 7",
		"make 9 0", "error 7",
		"make 9 00", "error 3",
		"state 1", "error 3",
		"asks x", "error 3",
		"date 999999999999 x", "error 3",
		"next 999999999999 0 x", "error 3",
		"next 999999999999 0 * * * * *", "error 1",
		"world x 1 1", "error 3",
		"world 0 1 1", "error 3 1",
	)
}

func TestP25Date(t *testing.T) {
	talk(t,
		"date 0 0", "1970-1-1 0:0:0 4",
		"date 951782400 0", "2000-2-29 0:0:0 2",
		"date 951782400 -60", "2000-2-28 23:0:0 1",
		"date 951868799 0", "2000-2-29 23:59:59 2",
		"date 1234567890 0", "2009-2-13 23:31:30 5",
		"date -1 0", "1969-12-31 23:59:59 3",
		"date 0 900", "1970-1-1 15:0:0 4",
		"date 0 -900", "1969-12-31 9:0:0 3",
		"date 0 901", "error 1",
		"date 0 -901", "error 1",
		"date 100000000001 0", "error 1",
		"date -100000000001 0", "error 1",
		"date 259200 0", "1970-1-4 0:0:0 0",
		"date -62135596801 0", "0-12-31 23:59:59 0",
		"date -62167219201 0", "-1-12-31 23:59:59 5",
	)
}

func TestP25Next(t *testing.T) {
	talk(t,
		"next 0 60 30 6 * * *", "19800",
		"next 0 0 30 6 * * *", "23400",
		"next   0  0  30   6 *  * *  ", "23400",
		"next 0 0 0 0 31 2 *", "none",
		"next -1 0 * * * * *", "0",
		"next -61 0 * * * * *", "-60",
		"next 0 0 */15 * * * *", "900",
		"next 0 0 0 0 * * 0", "259200",
		"next 99999999999 0 0 0 * * *", "none",
		"next 0 901 * * * * *", "error 1",
		"next 0 -901 * * * * *", "error 1",
		"next 100000000001 0 * * * * *", "error 1",
		"next 0 901 * * * *", "error 3",
		"next 0 0 * * * *", "error 3",
		"next 0 0 * * * * * *", "error 3",
		"next 0 0 60 * * * *", "error 3",
		"next 0 0 0\t* * * *", "error 3",
		"next 0 0 x", "error 3",
	)
	// With the blanks between its words it has 300 bytes, then one more.
	full := "next 0   0 " + strings.Repeat("0,", 145) + "10  *   * * *"
	wantRun(t, full, "600\n")
	wantRun(t, strings.Replace(full, "0,", "00,", 1), "error 2\n")
	wantRun(t, "next 0 901 "+strings.Repeat("0,", 145)+"100 * * * *", "error 2\n")
}

func TestP25PlanAndShow(t *testing.T) {
	talk(t,
		"show", "error 3 1",
		"plan plan p 0 9 2 6", "ok",
		"show", "error 3 2",
		"plan  rest  100 3   2 -60 ", "ok",
		"show", "error 3 3",
		"plan up 0 2 50 10", "ok",
		"show", "error 3 4",
		"plan down 30 0 0 0", "ok",
		"show", "plan p 0 9 2 6\nrest 100 3 2 -60\nup 0 2 50 10\ndown 30 0 0 0\nok",
		"plan span 4 */20 8,9,10 * * 1-5 / 0 18 * * *", "ok",
		"plan lag 10 5", "ok",
		"show", "plan p 0 9 2 6\nrest 100 3 2 -60\nup 0 2 50 10\ndown 30 0 0 0\nspan 4 0,20,40 8-10 * * 1-5 / 0 18 * * *\nlag 10 5\nok",
		"plan x", "ok",
		"show", "error 3 7",
		"show", "error 3 7",
		"clear", "ok",
		"show", "error 3 1",
		"clear", "ok",
	)
	talk(t, append(head("plan depth 7 0"), "show", "plan p 0 9 1 6\nrest 0 0 0 0\nup 0 0 0 0\ndown 0 0 0 0\ndepth 7 0\nok")...)
	// A remark, or a word that is none elsewhere, is a plan's line, too.
	talk(t, "plan # no", "ok", "show", "error 3 1", "clear", "ok", "plan \xff", "ok", "show", "error 3 1")
}

// A plan that can be read but is refused is so at line 0.
func TestP25PlanErrorsAtLine0(t *testing.T) {
	for line, want := range map[string]string{
		"plan depth 0 0":                     "error 1 0",
		"plan depth 1 1000001":               "error 1 0",
		"plan span 51 * * * * * / * * * * *": "error 1 0",
		"plan lag 1 0\n" + strings.Repeat("plan lag 1 0\n", 4) + "plan lag 1 0": "error 2 0",
	} {
		plan := strings.Join([]string{"plan plan p 0 9 1 6", "plan rest 0 0 0 0", "plan up 0 0 0 0", "plan down 0 0 0 0", line}, "\n")
		oks := strings.Repeat("ok\n", strings.Count(plan, "\n")+1)
		wantRun(t, plan+"\nshow\nworld 0 1 0\nstate", oks+want+"\n"+want+"\nerror 7\n")
	}
	talk(t, append(each("ok", "plan plan p 9 8 1 6", "plan rest 0 0 0 0", "plan up 0 0 0 0", "plan down 0 0 0 0"), "show", "error 1 0", "world 1 1 0", "error 1 0")...)
	talk(t, append(each("ok", "plan plan P 0 9 1 6", "plan rest 0 0 0 0"), "show", "error 3 1", "world 1 1 0", "error 3 1")...)
}

// The byte 10 counts, and a line that has no room leaves the text as it is.
func TestP25PlanLarge(t *testing.T) {
	long := func(n int) string { return "plan " + strings.Repeat("x", n) }
	wantRun(t, long(2047), "ok\n")
	wantRun(t, long(2048), "error 2\n")
	wantRun(t, "plan "+strings.Repeat(" ", 9000)+"x", "ok\n")
	talk(t, long(2045), "ok", "plan xx", "error 2", "plan x", "ok", "plan x", "error 2", "clear", "ok", "plan xx", "ok")
	talk(t, long(1999), "ok", "plan "+strings.Repeat("y  ", 23)+"yy", "error 2", "plan "+strings.Repeat("y  ", 23)+"y", "ok", "plan y", "error 2")
	talk(t, append(head("plan depth 7 0", "plan lag 7 0"), long(1990), "error 2", "show",
		"plan p 0 9 1 6\nrest 0 0 0 0\nup 0 0 0 0\ndown 0 0 0 0\ndepth 7 0\nlag 7 0\nok")...)
}

func TestP25World(t *testing.T) {
	talk(t, append(head("plan depth 10 0"),
		"world 0 1 0", "error 1",
		"world 21 1 0", "error 1",
		"world 1 1 10000000001", "error 1",
		"world 1 1 -10000000001", "error 1",
		"state", "error 7",
		"world 20 1 10000000000", "ok",
		"world 1 -5 -10000000000", "ok",
		"state", "0 0",
		"tick 5", "ok",
		"state", "5 0",
		"world 0 1 0", "error 1",
		"state", "5 0",
		"plan x", "ok",
		"world 1 1 0", "error 3 6",
		"state", "5 0",
		"clear", "ok",
		"world 1 1 0", "error 3 1",
		"put 1", "ok",
		"tick 1", "ok",
		"state", "6 1 1:1:0",
	)...)
	// Another world begins anew, with the plan's text as it is then.
	talk(t, begun("put 25", "ok", "tick 1", "ok", "state", "1 3 1:1:0 2:1:0 3:1:0", "plan lag 5 0", "ok",
		"make 1 20", "ok", "tick 1", "ok", "state", "2 3 1:1:0 2:1:0 3:1:0",
		"world 2 1 0", "ok", "state", "0 0", "asks", "none",
		"make 1 20", "ok", "tick 1", "ok", "state", "1 1 1:1:0")...)
}

// parts, most and sec each have their place.
func TestP25WorldNumbers(t *testing.T) {
	talk(t, append(head("plan span 4 0 8 * * * / 0 18 * * *"),
		"world 3 2 28798", "ok",
		"make 2 1", "ok",
		"make 3 1", "error 4",
		"tick 1", "ok",
		"state", "1 0",
		"tick 1", "ok",
		"state", "2 4 1:1:0 2:1:0 3:1:0 4:1:0",
		"start 1", "ok",
		"ready 1", "ok",
		"ask 0 9", "ok",
		"ask 1 9", "ok",
		"ask 2 9", "ok",
		"asks", "0:2 1:2 2:1",
		"state", "2 4 1:3:2 2:1:0 3:1:0 4:1:0",
	)...)
}

func TestP25Queue(t *testing.T) {
	talk(t, begun(
		"put 0", "error 1",
		"put -1", "error 1",
		"put 201", "error 6",
		"put 11", "ok",
		"put 190", "error 6",
		"tick 1", "ok",
		"state", "1 2 1:1:0 2:1:0",
		"lease 0", "error 1",
		"lease 100001", "error 1",
		"lease 3", "ok",
		"ack 2", "error 7",
		"ack 12", "error 4",
		"tick 1", "ok",
		"state", "2 1 1:1:0",
		"tick 2", "ok",
		"state", "4 2 1:1:0 3:1:0",
		"ack 1", "error 7",
		"lease 9", "ok",
		"ack 1", "ok",
		"ack 1", "error 4",
		"tick 9", "ok",
		"state", "13 1 1:1:0",
	)...)
}

func TestP25Topic(t *testing.T) {
	talk(t, append(head("plan lag 10 0"),
		"world 2 1 0", "ok",
		"make 0 25", "ok",
		"make 1 5", "ok",
		"make 2 5", "error 4",
		"make -1 5", "error 4",
		"make 0 0", "error 1",
		"make 0 100001", "error 1",
		"tick 1", "ok",
		"state", "1 2 1:1:0 2:1:0",
		"take 0 26", "error 1",
		"take 0 25", "ok",
		"take 0 24", "error 1",
		"take 2 0", "error 4",
		"tick 1", "ok",
		"state", "2 1 1:1:0",
		"take 1 5", "ok",
		"tick 5", "ok",
		"state", "7 1 1:1:0",
		"tick 1", "ok",
		"state", "8 0",
	)...)
}

func TestP25FailAndPause(t *testing.T) {
	talk(t, append(head("plan depth 10 0", "plan lag 10 0"),
		"world 1 1 0", "ok",
		"put 30", "ok",
		"tick 1", "ok",
		"state", "1 3 1:1:0 2:1:0 3:1:0",
		"fail 2 1", "error 4",
		"fail -1 1", "error 4",
		"fail 0 2", "error 1",
		"fail 0 -1", "error 1",
		"fail 0 1", "ok",
		"put 30", "ok",
		"tick 1", "ok",
		"state", "2 3 1:1:0 2:1:0 3:1:0",
		"fail 0 0", "ok",
		"fail 1 0", "ok",
		"pause 51", "error 1",
		"pause -2", "error 1",
		"pause 1", "ok",
		"tick 1", "ok",
		"state", "3 1 1:1:0",
		"pause 0", "ok",
		"tick 1", "ok",
		"state", "4 0",
		"pause -1", "ok",
		"tick 1", "ok",
		"state", "5 6 4:1:0 5:1:0 6:1:0 7:1:0 8:1:0 9:1:0",
	)...)
}

func TestP25PodsAndRequests(t *testing.T) {
	talk(t, begun(
		"asks", "none",
		"state", "0 0",
		"start 1", "error 4",
		"ask 6 5", "error 4",
		"ask -1 5", "error 4",
		"ask 0 0", "error 1",
		"ask 5 100001", "error 1",
		"asks", "none",
		"ask 5 2", "ok",
		"ask 3 9", "ok",
		"ask 3 9", "ok",
		"asks", "5:1 3:1 3:1",
		"put 11", "ok",
		"tick 1", "ok",
		"state", "1 2 1:1:0 2:1:0",
		"ready 1", "error 7",
		"start 2", "ok",
		"start 2", "error 7",
		"state", "1 2 1:1:0 2:2:0",
		"tick 1", "ok",
		"asks", "5:4 3:1 3:1",
		"ready 2", "ok",
		"asks", "5:4 3:2 3:1",
		"state", "2 2 1:1:0 2:3:1",
		"done 1", "error 7",
		"done 4", "error 4",
		"done 2", "ok",
		"asks", "5:4 3:3 3:2",
		"crash 3", "error 4",
		"crash 2", "ok",
		"asks", "5:4 3:3 3:5",
		"state", "2 2 1:1:0",
		"done 3", "error 7",
	)...)
}

// Who is drained does what it has.
func TestP25StateOfDraining(t *testing.T) {
	talk(t, begun(
		"pause 1", "ok", "tick 1", "ok", "start 1", "ok", "ready 1", "ok", "ask 0 9", "ok",
		"pause 0", "ok", "tick 1", "ok",
		"state", "2 0 1:4:1",
		"done 1", "ok",
		"state", "2 0",
	)...)
}

func TestP25Tick(t *testing.T) {
	talk(t, begun(each("error 1", "tick 0", "tick -1", "tick 1001", "tick 999999999999", "tick -999999999999")...)...)
	talk(t, begun("tick 1000", "ok", "state", "1000 0", "tick 1", "ok", "state", "1001 0", "tick 1001", "error 1", "state", "1001 0")...)
}

func TestP25ManyPodsAndRequests(t *testing.T) {
	lines := begun("pause 50", "ok", "tick 1", "ok")
	state, asks := "1 50", ""
	for i := 1; i <= 50; i++ {
		state += fmt.Sprintf(" %d:1:0", i)
	}
	for i := range 60 {
		lines = append(lines, fmt.Sprintf("ask %d 9", i%6), "ok")
		asks += fmt.Sprintf(" %d:1", i%6)
	}
	talk(t, append(lines, "ask 0 9", "error 6", "state", state, "asks", asks[1:])...)
}
