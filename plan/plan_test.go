package plan

import (
	"reflect"
	"slices"
	"strconv"
	"strings"
	"testing"

	"tidewheel/api"
	"tidewheel/cron"
)

const (
	goodText = "plan p-1 0 50 2 6\nrest 100 3 2 -60\nup 0 2 50 10\ndown 30 1 7 8\nlag 10 5\nspan 4 0 8 * * 1-5 / 0 18 * * *\ndepth 7 0\n"
	head     = "plan p 0 1 1 1\nrest 0 0 0 0\nup 0 0 0 0\ndown 0 0 0 0\n"
)

func wantPrint(t testing.TB, p api.Plan, want string) {
	t.Helper()
	if s, e := Print(p); s != want || e != api.OK {
		t.Errorf("Print(%v) = %q, %d, not %q, OK", p, s, e, want)
	}
}

func same(p, q api.Plan) bool {
	if len(p.Triggers) == 0 && len(q.Triggers) == 0 {
		p.Triggers, q.Triggers = nil, nil
	}
	return reflect.DeepEqual(p, q)
}

func wantParse(t testing.TB, s string, want api.Plan) {
	t.Helper()
	if p, at, e := Parse(s); !same(p, want) || at != 0 || e != api.OK {
		t.Errorf("Parse(%q) = %v, %d, %d, not %v, 0, OK", s, p, at, e, want)
	}
}

func wantNoPlan(t testing.TB, s string, at int, want api.Errno) {
	t.Helper()
	if p, n, e := Parse(s); !reflect.DeepEqual(p, api.Plan{}) || n != at || e != want {
		t.Errorf("Parse(%q) = %v, %d, %d, not the zero value, %d, %d", s, p, n, e, at, want)
	}
}

func TestP13PrintAndParse(t *testing.T) {
	wantPrint(t, good(t), goodText)
	wantParse(t, goodText, good(t))
	small := api.Plan{Name: "p", Max: 1, Poll: 1, Cool: 1}
	wantPrint(t, small, head)
	wantParse(t, head, small)
	great := api.Plan{
		Name: "0123456789abcdef", Min: 50, Max: 50, Poll: 100000, Cool: 100000,
		Tolerance: 1000, Back: 50, After: 100, Shift: 900,
		Up: api.Pace{Window: 100000, Pods: 50, Percent: 1000, Period: 100000}, Down: api.Pace{Window: 99999, Pods: 49, Percent: 999, Period: 10},
		Triggers: []api.Trigger{depth(1000000, 999999), lag(999999, 1000000), during(t, 50, "* * * * *", "1,3-5 0-22 1-31 1-11 0-6")},
	}
	text := "plan 0123456789abcdef 50 50 100000 100000\nrest 1000 50 100 900\nup 100000 50 1000 100000\ndown 99999 49 999 10\n" +
		"depth 1000000 999999\nlag 999999 1000000\nspan 50 * * * * * / 1,3-5 0-22 1-31 1-11 0-6\n"
	wantPrint(t, great, text)
	wantParse(t, text, great)
}

// Each number has a place of its own in the text.
func TestP13EachNumber(t *testing.T) {
	for i := range 25 {
		p, q := good(t), good(t)
		x := numbers(&p)[i]
		for _, *x.at = range []int{x.least, x.most} {
			s, e := Print(p)
			if e != api.OK || strings.Count(s, "\n") != 7 {
				t.Errorf("Print(%v) = %q, %d", p, s, e)
			}
			wantParse(t, s, p)
			if (s == goodText) != same(p, q) {
				t.Errorf("Print(%v) = %q, as another plan", p, s)
			}
		}
	}
}

// A cron may be written in other ways than it is printed in.
func TestP13ParseAnyCron(t *testing.T) {
	for _, s := range []string{
		"*/20 0-6/3 1,15 2 1-5", "00 01 02 03 04", "9,1,1,5-7,6-8 */5,1 */10,*/15 */7 */4", "0-59 0-23 * 1-12 *",
		strings.Repeat("0,", 145) + "0 0 1 1 0", "* * */1 * */1",
	} {
		c := cronOf(t, s)
		every := "* * * * *"
		p := api.Plan{Name: "p", Max: 1, Poll: 1, Cool: 1, Triggers: []api.Trigger{{Kind: 3, Target: 9, Span: api.Span{Start: c, End: cronOf(t, every)}}}}
		wantParse(t, head+"span 9 "+s+" / "+every+"\n", p)
		p.Triggers[0].Span.Start, p.Triggers[0].Span.End = p.Triggers[0].Span.End, c
		wantParse(t, head+"span 9 "+every+" / "+s+"\n", p)
		printed, _ := cron.Print(c)
		wantPrint(t, p, head+"span 9 "+every+" / "+printed+"\n")
	}
}

func TestP13ParseWrongCrons(t *testing.T) {
	for _, s := range []string{
		"", " ", "*", "* * * *", "* * * * * *", "60 * * * *", "* * * * 7", "* * 0 * *", "5/2 * * * *", "/ * * * *", "* * / * *",
		" * * * * *", "* * * * * ", "*  * * * *", "* * * * x", "* * * * * /", "/ * * * * *", "*/0 * * * *", "\t* * * * *", "* * * * *\r",
		strings.Repeat("0,", 146) + "0 0 1 1 0", // 301 bytes
	} {
		every := "* * * * *"
		wantNoPlan(t, head+"lag 1 1\nspan 9 "+s+" / "+every+"\n", 6, api.ErrSyntax)
		wantNoPlan(t, head+"lag 1 1\nspan 9 "+every+" / "+s+"\n", 6, api.ErrSyntax)
	}
}

func TestP13ParseWrongSpans(t *testing.T) {
	for _, s := range []string{
		"span", "span ", "span 9", "span 9 ", "span 9 /", "span 9 / ", "span 9  / ", "span 9 * * * * *", "span 9 * * * * * /",
		"span 9 * * * * */ * * * * *", "span 9 * * * * * /* * * * *", "span 9 * * * * *  / * * * * *", "span 9 * * * * * /  * * * * *",
		"span 9  * * * * * / * * * * *", "span * * * * * / * * * * *", "span 9 0 * * * * * / * * * * *", "span  9 * * * * * / * * * * *",
		"span 9 * * * * * / * * * * * / * * * * *", "span 9 * * * * * / / * * * * *", "span 9 * * * * * * * * * * *",
		"span 9 * * * * * - * * * * *", "span x * * * * * / * * * * *", "span 09 * * * * * / * * * * *", "Span 9 * * * * * / * * * * *",
		"span 9 * * * * * / * * * * * ", " span 9 * * * * * / * * * * *", "lag 9 * * * * * / * * * * *", "depth 9 * * * * * / * * * * *",
	} {
		wantNoPlan(t, head+s+"\n", 5, api.ErrSyntax)
	}
}

// lines of goodText, without their bytes 10.
func lines() []string {
	return strings.Split(strings.TrimSuffix(goodText, "\n"), "\n")
}

func join(lines ...string) string {
	return strings.Join(append(lines, ""), "\n")
}

// Each line, the words of which are more, fewer, other ones, or stand
// wrong, is the first that is none such, whatever comes behind it.
func TestP13ParseWrongLines(t *testing.T) {
	for i, line := range lines() {
		words := strings.Split(line, " ")
		wrong := []string{
			"", " ", "x", " " + line, line + " ", line + " 0", line + "\r", line + "\x00", line + "x", strings.ToUpper(line),
			strings.Replace(line, " ", "  ", 1), strings.ReplaceAll(line, " ", "\t"), words[0], words[0] + " ", "#" + line, "\n" + line,
		}
		for k := range words {
			wrong = append(wrong, strings.Join(slices.Delete(slices.Clone(words), k, k+1), " "))
		}
		for _, s := range wrong {
			s = join(lines()[:i]...) + s
			for _, behind := range []string{"\n", "\n" + join(lines()[i+1:]...), "\nx\n", "\n\n"} {
				wantNoPlan(t, s+behind, i+1, api.ErrSyntax)
			}
		}
	}
}

// Each line in each other one's place: triggers alone may change places.
func TestP13ParseOrderOfLines(t *testing.T) {
	for i := range lines() {
		for k := range i {
			other := lines()
			other[i], other[k] = other[k], other[i]
			if k < 4 {
				wantNoPlan(t, join(other...), k+1, api.ErrSyntax)
				continue
			}
			p := good(t)
			p.Triggers[i-4], p.Triggers[k-4] = p.Triggers[k-4], p.Triggers[i-4]
			wantParse(t, join(other...), p)
		}
	}
}

// A text that ends ahead of the fifth line, or within a line, ends too
// early at the line that isn't there, or has no end.
func TestP13ParseEndsTooEarly(t *testing.T) {
	for n := range len(goodText) {
		s := goodText[:n]
		at := strings.Count(s, "\n") + 1
		if at <= 4 || !strings.HasSuffix(s, "\n") {
			wantNoPlan(t, s, at, api.ErrSyntax)
			continue
		}
		p := good(t)
		p.Triggers = p.Triggers[:at-5]
		wantParse(t, s, p)
	}
	wantNoPlan(t, goodText+"\n", 8, api.ErrSyntax)
	wantNoPlan(t, goodText+" ", 8, api.ErrSyntax)
	wantNoPlan(t, "\n"+goodText, 1, api.ErrSyntax)
}

// withNumber calls f for each number that isn't a cron's: with goodText
// that has another word in its place, with its line, and how many such
// numbers stand ahead of it.
func withNumber(word string, f func(s string, line, i int)) {
	count := 0
	for i, line := range lines() {
		words := strings.Split(line, " ")
		for k := range words {
			if k == 0 || i == 0 && k == 1 || i == 5 && k > 1 {
				continue
			}
			other, all := slices.Clone(words), lines()
			other[k] = word
			all[i] = strings.Join(other, " ")
			f(join(all...), i+1, count)
			count++
		}
	}
}

func TestP13ParseWrongNumbers(t *testing.T) {
	for _, word := range []string{
		"", "x", "-", "--1", "+1", "+0", "-0", "00", "01", "-01", "007", "0000001", "-0000001", "12345678", "-12345678", "00000000", "10000000",
		"1-", "1.", "1.0", "1e1", "0x1", "1_0", "1,0", "\t1", "1\t", "1\r", "1\x00", "\x001", "１", "٣", "²", "−1", "/", ":", "1/", "1:", "*", "nan",
		"18446744073709551617", "4294967297", "9999999999999999999999999",
	} {
		withNumber(word, func(s string, line, _ int) { wantNoPlan(t, s, line, api.ErrSyntax) })
	}
}

// numberOrder is at which place of numbers each of withNumber's stands,
// since kinds are no numbers of a text.
var numberOrder = [...]int{0, 1, 2, 3, 4, 5, 6, 7, 8, 9, 10, 11, 12, 13, 14, 15, 17, 18, 20, 23, 24}

// A number of one to seven digits is read, whatever it is, and its bounds
// are looked at when all has been read, at no line.
func TestP13ParseNumbersOutOfBounds(t *testing.T) {
	for _, n := range []int{0, 1, -1, 9, -9, 10, 49, 50, 51, 99, 100, 101, 899, 900, -900, 901, -901, 999, 1000, 1001, -1000, 99999, 100000, 100001, 999999, 1000000, 1000001, 9999999, -9999999} {
		withNumber(strconv.Itoa(n), func(s string, line, i int) {
			p := good(t)
			x := numbers(&p)[numberOrder[i]]
			*x.at = n
			if n >= x.least && n <= x.most {
				wantParse(t, s, p)
			} else {
				wantNoPlan(t, s, 0, api.ErrArg)
			}
			// Any line that is none such stands ahead of it.
			wantNoPlan(t, s+"x\n", 8, api.ErrSyntax)
		})
	}
}

func TestP13ParseMinAboveMax(t *testing.T) {
	wantNoPlan(t, strings.Replace(goodText, "0 50", "3 2", 1), 0, api.ErrArg)
	wantNoPlan(t, strings.Replace(goodText, "0 50", "0 0", 1), 0, api.ErrArg)
	p := good(t)
	p.Min, p.Max = 3, 3
	wantParse(t, strings.Replace(goodText, "0 50", "3 3", 1), p)
}

// A name that is wrong is told at line 1, not at 0, and a blank ends it.
func TestP13ParseNames(t *testing.T) {
	const behind = " 0 50 2 6\n"
	rest := join(lines()[1:]...)
	for _, name := range []string{"", "P", "p_1", "p.1", "é", "p\t1", "p\x00", "p/1", "p 1", strings.Repeat("x", 17), strings.Repeat("x", 300)} {
		wantNoPlan(t, "plan "+name+behind+rest, 1, api.ErrSyntax)
		wantNoPlan(t, "plan "+name+behind+"x\n", 1, api.ErrSyntax)
		wantNoPlan(t, "plan "+name+" 9 1 0 0\n"+rest, 1, api.ErrSyntax)
	}
	for _, name := range []string{"a", "z", "0", "9", "-", "--", "7", "-1", "00", "plan", "rest", strings.Repeat("x", 16)} {
		p := good(t)
		p.Name = name
		wantParse(t, "plan "+name+behind+rest, p)
	}
}

// More triggers than there may be are read all the same, and told at 0.
func TestP13ParseHowManyTriggers(t *testing.T) {
	p := api.Plan{Name: "p", Max: 1, Poll: 1, Cool: 1}
	for n := range 200 {
		s := head + strings.Repeat("lag 1 1\n", n)
		if n <= 5 {
			wantParse(t, s, p)
		} else {
			wantNoPlan(t, s, 0, api.ErrLarge)
			wantNoPlan(t, s+"lag 1\n", n+5, api.ErrSyntax)
			wantNoPlan(t, strings.Replace(s, " 0 1 1 1", " 9 1 1 1", 1), 0, api.ErrLarge)
		}
		p.Triggers = append(p.Triggers, lag(1, 1))
	}
}

// longCron is a text of so many bytes, from 9 to 300, that cron.Parse
// takes.
func longCron(bytes int) string {
	hour := "0"
	if bytes%2 == 0 {
		hour = "00"
	}
	return strings.Repeat("0,", (bytes-9)/2) + "0 " + hour + " 1 1 0"
}

// longText is a text of so many bytes, from 300 to 3000, that is none too
// long for its plan, if it isn't for Parse.
func longText(bytes int) string {
	const bare = "span 1  / \n"
	s, left := head, bytes-len(head)-5*len(bare)
	for i := 10; i > 0; i -= 2 {
		one := left / i
		two := (left - one) / (i - 1)
		left -= one + two
		s += "span 1 " + longCron(one) + " / " + longCron(two) + "\n"
	}
	return s
}

func TestP13ParseTooLong(t *testing.T) {
	p := api.Plan{Name: "p", Max: 1, Poll: 1, Cool: 1}
	for range 5 {
		p.Triggers = append(p.Triggers, during(t, 1, "0 0 1 1 0", "0 0 1 1 0"))
	}
	for bytes := 300; bytes < 3000; bytes++ {
		s := longText(bytes)
		if len(s) != bytes {
			t.Fatal(len(s), bytes)
		}
		if bytes <= 2048 {
			wantParse(t, s, p)
		} else {
			wantNoPlan(t, s, 0, api.ErrLarge)
		}
	}
	for _, s := range []string{"x", "\n", "\x00", "plan p 0 1 1 1\n"} {
		for _, n := range []int{2047, 2048, 2049, 2050, 1 << 16} {
			long := strings.Repeat(s, n/len(s)+1)[:n]
			if n > 2048 {
				wantNoPlan(t, long, 0, api.ErrLarge)
			} else {
				wantNoPlan(t, long, 1+len(s)/15, api.ErrSyntax)
			}
		}
	}
}

// A plan may be printed as a text that is too long for Parse: no word of
// P13 has it refused.
func TestP13PrintLongTexts(t *testing.T) {
	const rows = "0-1,3-4,6-7,9-10,12-13,15-16,18-19,21-22"
	const more = rows + ",24-25,27-28,30-31,33-34,36-37,39-40,42-43,45-46,48-49,51-52,54-55,57-58"
	const days = "1-2,4-5,7-8,10-11,13-14,16-17,19-20,22-23,25-26,28-29,31"
	const c = more + " " + rows + " " + days + " 1-2,4-5,7-8,10-11 0-1,3-4,6"
	p := api.Plan{Name: "p", Max: 1, Poll: 1, Cool: 1}
	want := head
	for range 5 {
		p.Triggers = append(p.Triggers, during(t, 1, c, c))
		want += "span 1 " + c + " / " + c + "\n"
		wantPrint(t, p, want)
		if len(want) <= 2048 {
			wantParse(t, want, p)
		} else {
			wantNoPlan(t, want, 0, api.ErrLarge)
		}
	}
	if len(want) <= 2048 {
		t.Error(len(want))
	}
}
