package desk

import (
	"strconv"
	"strings"

	"tidewheel/api"
	"tidewheel/civil"
	"tidewheel/cron"
	"tidewheel/plan"
	"tidewheel/world"
)

const (
	done    = "ok"
	nothing = "none"
)

func date(numbers []int, _ []string) (string, error) {
	t, e := civil.Of(numbers[0], numbers[1])
	if e != api.OK {
		return "", fault{e}
	}
	return join("-", t.Year, t.Month, t.Day) + " " + join(":", t.Hour, t.Minute, t.Second) + " " + strconv.Itoa(t.Week), nil
}

func next(numbers []int, more []string) (string, error) {
	c, e := cron.Parse(strings.Join(more, " "))
	if e != api.OK {
		return "", fault{e}
	}
	sec, there, e := cron.Next(c, numbers[0], numbers[1])
	if e != api.OK {
		return "", fault{e}
	}
	if !there {
		return nothing, nil
	}
	return strconv.Itoa(sec), nil
}

func (d *desk) addLine(_ []int, more []string) (string, error) {
	text := d.text + strings.Join(more, " ") + "\n"
	if len(text) > api.MaxText {
		return "", fault{api.ErrLarge}
	}
	d.text = text
	return done, nil
}

func (d *desk) clear([]int, []string) (string, error) {
	d.text = ""
	return done, nil
}

func (d *desk) show([]int, []string) (string, error) {
	p, err := d.plan()
	if err != nil {
		return "", err
	}
	text, e := plan.Print(p)
	return text + done, asError(e)
}

// newWorld leaves the world that is there, if there can't be another one.
func (d *desk) newWorld(numbers []int, _ []string) (string, error) {
	p, err := d.plan()
	if err != nil {
		return "", err
	}
	w, e := world.New(p, numbers[0], numbers[1], numbers[2])
	if e != api.OK {
		return "", fault{e}
	}
	d.world = w
	return done, nil
}

func (d *desk) plan() (api.Plan, error) {
	p, line, e := plan.Parse(d.text)
	if e != api.OK {
		return api.Plan{}, lineFault{fault{e}, line}
	}
	return p, nil
}

func (d *desk) happens(x api.Happens) (string, error) {
	return done, asError(d.world.Do(x))
}

func (d *desk) state([]int, []string) (string, error) {
	answer := join(" ", d.world.Now(), d.world.Target())
	for _, p := range d.world.Pods() {
		answer += " " + join(":", p.Id, p.State, p.Load)
	}
	return answer, nil
}

func (d *desk) asks([]int, []string) (string, error) {
	var words []string
	for _, r := range d.world.Requests() {
		words = append(words, join(":", r.Source, r.Fate))
	}
	if len(words) == 0 {
		return nothing, nil
	}
	return strings.Join(words, " "), nil
}

func join(between string, numbers ...int) string {
	var words []string
	for _, n := range numbers {
		words = append(words, strconv.Itoa(n))
	}
	return strings.Join(words, between)
}
