package cron

import (
	"math/rand/v2"
	"regexp"
	"strconv"
	"strings"
	"testing"

	"tidewheel/api"
)

const (
	allMinutes = 1<<60 - 1
	allHours   = 1<<24 - 1
	allDays    = 1<<32 - 2
	allMonths  = 1<<13 - 2
	allWeek    = 1<<7 - 1
)

// every is the cron of every minute.
var every = api.Cron{Minute: allMinutes, Hour: allHours, Day: allDays, Month: allMonths, Week: allWeek, AnyDay: true, AnyWeek: true}

func set(numbers ...int) (s uint64) {
	for _, n := range numbers {
		s |= 1 << n
	}
	return s
}

// sets are pointers to the sets of a cron, in the order of the words.
func sets(c *api.Cron) []*uint64 {
	return []*uint64{&c.Minute, &c.Hour, &c.Day, &c.Month, &c.Week}
}

var leasts, mosts = []int{0, 0, 1, 1, 0}, []int{59, 23, 31, 12, 6}

// parse is Parse, of a text that it must take.
func parse(t testing.TB, s string) api.Cron {
	t.Helper()
	c, e := Parse(s)
	if e != api.OK {
		t.Fatalf("Parse(%q) told %d", s, e)
	}
	return c
}

func wantParse(t *testing.T, s string, want api.Cron) {
	t.Helper()
	if c, e := Parse(s); c != want || e != api.OK {
		t.Errorf("Parse(%q) = %v, %d, not %v, OK", s, c, e, want)
	}
}

func wantNoCron(t *testing.T, s string, want api.Errno) {
	t.Helper()
	if c, e := Parse(s); c != (api.Cron{}) || e != want {
		t.Errorf("Parse(%q) = %v, %d, not the zero value, %d", s, c, e, want)
	}
}

// isCron says P6's words on Check once more, number by number.
func isCron(c api.Cron) bool {
	for i, s := range sets(&c) {
		if *s == 0 {
			return false
		}
		for n := range 64 {
			in := *s&(1<<n) != 0
			bound := n >= leasts[i] && n <= mosts[i]
			all := i == 2 && c.AnyDay || i == 4 && c.AnyWeek
			if in && !bound || bound && all && !in {
				return false
			}
		}
	}
	return true
}

func wantCheck(t *testing.T, c api.Cron) {
	t.Helper()
	want := api.ErrArg
	if isCron(c) {
		want = api.OK
	}
	if e := Check(c); e != want {
		t.Errorf("Check(%v) = %d, not %d", c, e, want)
	}
}

func TestP6Check(t *testing.T) {
	for _, c := range []api.Cron{
		every,
		{Minute: 1, Hour: 1, Day: 2, Month: 2, Week: 1},
		{Minute: 1 << 59, Hour: 1 << 23, Day: 1 << 31, Month: 1 << 12, Week: 1 << 6},
		{Minute: 1, Hour: 1, Day: allDays, Month: 2, Week: 1, AnyDay: true},
		{Minute: 1, Hour: 1, Day: 2, Month: 2, Week: allWeek, AnyWeek: true},
		{Minute: 1, Hour: 1, Day: allDays, Month: 2, Week: allWeek},
	} {
		if e := Check(c); e != api.OK {
			t.Errorf("Check(%v) = %d, not OK", c, e)
		}
	}
	for _, c := range []api.Cron{
		{},
		{AnyDay: true, AnyWeek: true},
		{Minute: 1, Hour: 1, Day: 2, Month: 2, Week: 1, AnyDay: true},
		{Minute: 1, Hour: 1, Day: 2, Month: 2, Week: 1, AnyWeek: true},
		{Minute: 1, Hour: 1, Day: 2, Month: 2, Week: allWeek, AnyDay: true},
		{Minute: 1, Hour: 1, Day: allDays, Month: 2, Week: 1, AnyWeek: true},
	} {
		if e := Check(c); e != api.ErrArg {
			t.Errorf("Check(%v) = %d, not ErrArg", c, e)
		}
	}
}

// Each number in, and out of, each set, be the rest empty or full.
func TestP6CheckEachNumber(t *testing.T) {
	for marks := range 4 {
		for i := range 5 {
			for n := range 64 {
				c := every
				c.AnyDay, c.AnyWeek = marks&1 == 1, marks&2 == 2
				s, full := sets(&c)[i], *sets(&c)[i]
				for _, *s = range []uint64{0, 1 << n, full ^ 1<<n, full, ^uint64(0), ^uint64(0) ^ 1<<n} {
					wantCheck(t, c)
				}
			}
		}
	}
}

func TestP6Parse(t *testing.T) {
	wantParse(t, "* * * * *", every)
	wantParse(t, "30 6 * * *", api.Cron{Minute: set(30), Hour: set(6), Day: allDays, Month: allMonths, Week: allWeek, AnyDay: true, AnyWeek: true})
	wantParse(t, "*/20 0-6/3 1,15 2 1-5", api.Cron{Minute: set(0, 20, 40), Hour: set(0, 3, 6), Day: set(1, 15), Month: set(2), Week: set(1, 2, 3, 4, 5)})
	wantParse(t, "0 0 1 1 0", api.Cron{Minute: 1, Hour: 1, Day: 2, Month: 2, Week: 1})
	wantParse(t, "59 23 31 12 6", api.Cron{Minute: 1 << 59, Hour: 1 << 23, Day: 1 << 31, Month: 1 << 12, Week: 1 << 6})
	wantParse(t, "00 01 02 03 04", api.Cron{Minute: set(0), Hour: set(1), Day: set(2), Month: set(3), Week: set(4)})
	wantParse(t, "0-59 0-23 1-31 1-12 0-6", api.Cron{Minute: allMinutes, Hour: allHours, Day: allDays, Month: allMonths, Week: allWeek})
	wantParse(t, "7-7 3-03 5-5/9 2-2/1 6-6/99", api.Cron{Minute: set(7), Hour: set(3), Day: set(5), Month: set(2), Week: set(6)})
	wantParse(t, "9,1,1,5-7,6-8 */5,1 */10,*/15 */7 */4", api.Cron{
		Minute: set(1, 5, 6, 7, 8, 9), Hour: set(0, 1, 5, 10, 15, 20), Day: set(1, 11, 16, 21, 31), Month: set(1, 8), Week: set(0, 4),
	})
	wantParse(t, "5-58/20 1-22/21 2-30/28 2-11/99 1-5/05", api.Cron{Minute: set(5, 25, 45), Hour: set(1, 22), Day: set(2, 30), Month: set(2), Week: set(1)})
}

// A step begins at the first number of its set, which is not always 0.
func TestP6ParseStepOfAll(t *testing.T) {
	for step := 1; step <= 99; step++ {
		for _, text := range []string{strconv.Itoa(step), "0" + strconv.Itoa(step)} {
			if len(text) > 2 {
				continue
			}
			c := parse(t, strings.Repeat("*/"+text+" ", 4)+"*/"+text)
			for i, s := range sets(&c) {
				var want uint64
				for n := leasts[i]; n <= mosts[i]; n += step {
					want |= 1 << n
				}
				if *s != want {
					t.Errorf("word %d of step %s: %b, not %b", i+1, text, *s, want)
				}
			}
		}
	}
}

// Only a word that is `*` and no more says that any may be.
func TestP6ParseAny(t *testing.T) {
	for _, x := range []struct {
		word string
		any  bool
	}{
		{"*", true}, {"*/1", false}, {"*,*", false}, {"*,1", false}, {"1,*", false}, {"*/2,*", false}, {"*,*/3", false},
	} {
		want := every
		want.AnyDay = x.any
		wantParse(t, "* * "+x.word+" * *", want)
		want = every
		want.AnyWeek = x.any
		wantParse(t, "* * * * "+x.word, want)
		wantParse(t, x.word+" "+x.word+" * "+x.word+" *", every)
	}
	c := parse(t, "* * 1-31 * 0-6")
	if c.AnyDay || c.AnyWeek || c.Day != allDays || c.Week != allWeek {
		t.Error(c)
	}
}

func TestP6ParseSyntax(t *testing.T) {
	for _, s := range []string{
		"", " ", "*", "    ", "* * * *", "* * * * * *", " * * * * *", "* * * * * ", "*  * * * *", "*  * * *", "* * * *\t*", "* * * * *\n", "* * * *\x00*",
		"*\xc2\xa0* * * *", "* * * * \xff", "* * * * ٣", "@daily", "0 0 1 JAN *", "0 0 * * SUN", "0 0 L * *", "0 0 ? * *",
	} {
		wantNoCron(t, s, api.ErrSyntax)
	}
	for _, word := range []string{
		"", ",", "1,", ",1", "1,,2", "-", "-1", "1-", "1--2", "1-2-3", "-1-2", "+1", "1/2", "01/1", "/", "/2", "*/", "*/0", "*/00", "*/100", "*/001", "*/-1", "*/+1", "*/*",
		"*/2/3", "*//2", "1-3/", "1-3/0", "1-3/2/1", "1-3/100", "1-3/1-2", "2-1", "3-2/1", "*-3", "1-*", "**", "*1", "1*", "001", "000", "0x1", "1.", "1.0", "a", "A", "1a", "١",
		"99", "60", "100", "1-99", "99-99", "1,99", "/1", "1 -2", "1_2", ":", "/:", "*/:", "*/a", "1-:", ":-1", "2-0002", "0002-3",
	} {
		for i := range 5 {
			words := []string{"*", "*", "*", "*", "*"}
			words[i] = word
			wantNoCron(t, strings.Join(words, " "), api.ErrSyntax)
		}
	}
}

// Each number of one or two digits, in each word: alone, first and second
// of a row, and as a step.
func TestP6ParseEachNumber(t *testing.T) {
	for i := range 5 {
		for n := range 100 {
			words := []string{"*", "*", "*", "*", "*"}
			least, most, text := strconv.Itoa(leasts[i]), strconv.Itoa(mosts[i]), strconv.Itoa(n)
			for _, words[i] = range []string{text, least + "-" + text, text + "-" + most, text + "," + text, "*/" + text, text + "-" + text, "0" + text} {
				holdParse(t, strings.Join(words, " "))
			}
		}
	}
}

func TestP6ParseLarge(t *testing.T) {
	full := "1," + strings.Repeat("00,", 96) + "02 * * * *"
	if len(full) != 300 {
		t.Fatal(len(full))
	}
	want := every
	want.Minute = set(0, 1, 2)
	wantParse(t, full, want)
	wantNoCron(t, "0"+full, api.ErrLarge)
	wantNoCron(t, full+" ", api.ErrLarge)
	wantNoCron(t, strings.Repeat(" ", 300), api.ErrSyntax)
	for _, n := range []int{301, 302, 2048, 1 << 20} {
		for _, s := range []string{" ", "*", "0", "\x00", "x"} {
			wantNoCron(t, strings.Repeat(s, n), api.ErrLarge)
		}
	}
}

const (
	itemShape = `(?:[0-9]{1,2}|(?:\*|[0-9]{1,2}-[0-9]{1,2})(?:/[0-9]{1,2})?)`
	wordShape = `(` + itemShape + `(?:,` + itemShape + `)*)`
)

var shape = regexp.MustCompile(`\A` + wordShape + strings.Repeat(` `+wordShape, 4) + `\z`)

// wordOf is the set of a word that has the right shape; ok: none of its
// numbers is out of its bounds.
func wordOf(word string, least, most int) (s uint64, ok bool) {
	for _, item := range strings.Split(word, ",") {
		first, last, step := least, most, 1
		row, by, stepped := strings.Cut(item, "/")
		if stepped {
			step, _ = strconv.Atoi(by)
		}
		if row != "*" {
			a, b, two := strings.Cut(row, "-")
			first, _ = strconv.Atoi(a)
			last, _ = strconv.Atoi(b)
			if !two {
				last = first
			}
		}
		if step < 1 || first < least || last > most || first > last {
			return 0, false
		}
		for n := least; n <= most; n++ {
			if n >= first && n <= last && (n-first)%step == 0 {
				s |= 1 << n
			}
		}
	}
	return s, true
}

// holdParse holds Parse against P6's words as an expression, and Print
// of what it reads against P7's.
func holdParse(t *testing.T, s string) {
	t.Helper()
	if len(s) > 300 {
		wantNoCron(t, s, api.ErrLarge)
		return
	}
	words := shape.FindStringSubmatch(s)
	if words == nil {
		wantNoCron(t, s, api.ErrSyntax)
		return
	}
	want := api.Cron{AnyDay: words[3] == "*", AnyWeek: words[5] == "*"}
	for i, s := range sets(&want) {
		var ok bool
		if *s, ok = wordOf(words[i+1], leasts[i], mosts[i]); !ok {
			wantNoCron(t, words[0], api.ErrSyntax)
			return
		}
	}
	wantParse(t, s, want)
	wantCheck(t, want)
	wantPrint(t, want, wordsOf(want))
}

// Texts of the signs of a cron, most of them nearly right.
func TestP6ParseRandomTexts(t *testing.T) {
	r := rand.New(rand.NewPCG(6, 8))
	for range 20000 {
		var b strings.Builder
		for i := range 5 {
			if i > 0 {
				b.WriteByte(' ')
			}
			for range 1 + r.IntN(3) {
				b.WriteString([]string{"*", "1", "2-5", "*/3", "1-6/2", "0", ",", "-", "/", "12", "31", "7", "1,4"}[r.IntN(13)])
				if r.IntN(4) > 0 {
					break
				}
			}
		}
		holdParse(t, b.String())
	}
}

func FuzzP6(f *testing.F) {
	f.Add("* * * * *")
	f.Add("*/20 0-6/3 1,15 2 1-5")
	f.Add("9,1,1,5-7,6-8 */5,1 */10,*/15 */7 0-6")
	f.Fuzz(holdParse)
}

func wantPrint(t *testing.T, c api.Cron, want string) {
	t.Helper()
	if s, e := Print(c); s != want || e != api.OK {
		t.Errorf("Print(%v) = %q, %d, not %q, OK", c, s, e, want)
	}
}

// wordsOf says P7's words on Print once more, number by number.
func wordsOf(c api.Cron) string {
	words := make([]string, 5)
	for i, s := range sets(&c) {
		var rows []string
		for n := leasts[i]; n <= mosts[i]; n++ {
			last := n
			for *s&(1<<n) != 0 && *s&(1<<(last+1)) != 0 {
				last++
			}
			if *s&(1<<n) != 0 && last == n {
				rows = append(rows, strconv.Itoa(n))
			} else if *s&(1<<n) != 0 {
				rows = append(rows, strconv.Itoa(n)+"-"+strconv.Itoa(last))
			}
			n = last
		}
		words[i] = strings.Join(rows, ",")
	}
	for i, all := range []string{"0-59", "0-23", "", "1-12", ""} {
		if words[i] == all {
			words[i] = "*"
		}
	}
	if c.AnyDay {
		words[2] = "*"
	}
	if c.AnyWeek {
		words[4] = "*"
	}
	return strings.Join(words, " ")
}

func TestP7Print(t *testing.T) {
	for s, want := range map[string]string{
		"* * * * *":                          "* * * * *",
		"0-59 0-23 1-31 1-12 0-6":            "* * 1-31 * 0-6",
		"*/1 */1 */1 */1 */1":                "* * 1-31 * 0-6",
		"* * * * 0-6":                        "* * * * 0-6",
		"* * 1-31 * *":                       "* * 1-31 * *",
		"30 6 * * *":                         "30 6 * * *",
		"00 01 02 03 04":                     "0 1 2 3 4",
		"9,8,6,5,3 0,1 31,30,1 12,1 6,0":     "3,5-6,8-9 0-1 1,30-31 1,12 0,6",
		"0,59 0,23 1,31 1,12 0,6":            "0,59 0,23 1,31 1,12 0,6",
		"0-58 1-23 2-31 1-11 1-6":            "0-58 1-23 2-31 1-11 1-6",
		"1-59 0-22 1-30 2-12 0-5":            "1-59 0-22 1-30 2-12 0-5",
		"*/20 0-6/3 1,15 2 1-5":              "0,20,40 0,3,6 1,15 2 1-5",
		"10-20,21,15-30,32 5-5 9-10 11-12 *": "10-30,32 5 9-10 11-12 *",
	} {
		wantPrint(t, parse(t, s), want)
	}
}

func TestP7PrintErrors(t *testing.T) {
	for i := range 5 {
		for n := range 64 {
			c := every
			c.AnyDay, c.AnyWeek = false, false
			s := sets(&c)[i]
			if *s |= 1 << n; Check(c) != api.OK {
				wantNoPrint(t, c)
			}
			if *s = 0; n == 0 {
				wantNoPrint(t, c)
			}
		}
	}
	c := every
	c.Day ^= 2
	wantNoPrint(t, c)
	c = every
	c.Week ^= 1
	wantNoPrint(t, c)
	wantNoPrint(t, api.Cron{})
}

func wantNoPrint(t *testing.T, c api.Cron) {
	t.Helper()
	if s, e := Print(c); s != "" || e != api.ErrArg {
		t.Errorf("Print(%v) = %q, %d, not none, ErrArg", c, s, e)
	}
}

// randomCron is a cron that Check takes, its sets from scarce to full.
func randomCron(r *rand.Rand) (c api.Cron) {
	full := every
	for i, s := range sets(&c) {
		*s = *sets(&full)[i]
		for range r.IntN(5) {
			*s &= r.Uint64()
		}
		if *s == 0 {
			*s = 1 << (leasts[i] + r.IntN(mosts[i]-leasts[i]+1))
		}
	}
	c.AnyDay = c.Day == allDays && r.IntN(2) == 0
	c.AnyWeek = c.Week == allWeek && r.IntN(2) == 0
	return c
}

// What is printed is read back as it was, however long it gets.
func TestP7PrintIsReadBack(t *testing.T) {
	r := rand.New(rand.NewPCG(7, 7))
	all := []api.Cron{every}
	for range 20000 {
		all = append(all, randomCron(r))
	}
	// Rows of two numbers are what takes the most room.
	var c api.Cron
	for i, s := range sets(&c) {
		for n := mosts[i]; n >= leasts[i]; n -= 3 {
			*s |= 1 << n
			if n > leasts[i] {
				*s |= 1 << (n - 1)
			}
		}
	}
	for _, c := range append(all, c) {
		wantPrint(t, c, wordsOf(c))
		wantParse(t, wordsOf(c), c)
	}
}
