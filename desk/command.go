package desk

import (
	"strconv"

	"tidewheel/api"
)

// maxNumber is the greatest number of twelve digits.
const maxNumber = 999999999999

// command is what a line's first word asks for.
type command struct {
	numbers    int  // how many N stand behind the first word
	more       bool // whether there is WORD .. behind these: one at least
	needsWorld bool
	run        func(numbers []int, more []string) (string, error) // nil: it is no first word
}

func (d *desk) command(first string) command {
	switch first {
	case "date":
		return command{numbers: 2, run: date}
	case "next":
		return command{numbers: 2, more: true, run: next}
	case "plan":
		return command{more: true, run: d.addLine}
	case "clear":
		return command{run: d.clear}
	case "show":
		return command{run: d.show}
	case "world":
		return command{numbers: 3, run: d.newWorld}
	case "state":
		return command{needsWorld: true, run: d.state}
	case "asks":
		return command{needsWorld: true, run: d.asks}
	}
	if kind := kindOfOne(first); kind != 0 {
		return command{numbers: 1, needsWorld: true, run: func(numbers []int, _ []string) (string, error) {
			return d.happens(api.Happens{Kind: kind, N: numbers[0]})
		}}
	}
	if kind := kindOfTwo(first); kind != 0 {
		return command{numbers: 2, needsWorld: true, run: func(numbers []int, _ []string) (string, error) {
			return d.happens(api.Happens{Kind: kind, A: numbers[0], N: numbers[1]})
		}}
	}
	return command{}
}

// kindOfOne is the kind of what happens with one number, or 0.
func kindOfOne(word string) int {
	switch word {
	case "tick":
		return api.HTick
	case "put":
		return api.HPut
	case "lease":
		return api.HLease
	case "ack":
		return api.HAck
	case "start":
		return api.HStart
	case "ready":
		return api.HReady
	case "crash":
		return api.HCrash
	case "done":
		return api.HDone
	case "pause":
		return api.HPause
	}
	return 0
}

// kindOfTwo is the kind of what happens with two numbers, or 0.
func kindOfTwo(word string) int {
	switch word {
	case "make":
		return api.HMake
	case "take":
		return api.HTake
	case "fail":
		return api.HFail
	case "ask":
		return api.HAsk
	}
	return 0
}

// read parts the words behind the first one into numbers and more words.
func (c command) read(words []string) (numbers []int, more []string, ok bool) {
	if c.run == nil || len(words) < c.numbers {
		return nil, nil, false
	}
	for _, word := range words[:c.numbers] {
		n, ok := numberOf(word)
		if !ok {
			return nil, nil, false
		}
		numbers = append(numbers, n)
	}
	more = words[c.numbers:]
	return numbers, more, c.more == (len(more) > 0)
}

// numberOf takes a word only if its number would be written just so,
// since strconv takes a `+`, noughts ahead, and `-0`, too.
func numberOf(word string) (int, bool) {
	n, err := strconv.Atoi(word)
	return n, err == nil && strconv.Itoa(n) == word && n >= -maxNumber && n <= maxNumber
}
