package cron

import (
	"strconv"
	"strings"
)

func parseWord(word string, b bound) (uint64, bool) {
	var set uint64
	for _, item := range strings.Split(word, ",") {
		one, ok := parseItem(item, b)
		if !ok {
			return 0, false
		}
		set |= one
	}
	return set, true
}

func parseItem(item string, b bound) (uint64, bool) {
	text, behind, stepped := strings.Cut(item, "/")
	row, single, ok := parseRow(text, b)
	if !ok || single && stepped {
		return 0, false
	}
	step := 1
	if stepped {
		step, ok = parseNumber(behind, bound{1, 99})
	}
	if !ok {
		return 0, false
	}
	return row.each(step), true
}

// parseRow reads what stands ahead of a step, and tells whether that is
// a single number, which may have no step.
func parseRow(text string, b bound) (row bound, single, ok bool) {
	if text == "*" {
		return b, false, true
	}
	first, second, two := strings.Cut(text, "-")
	if !two {
		second = first
	}
	least, ok1 := parseNumber(first, b)
	most, ok2 := parseNumber(second, b)
	return bound{least, most}, !two, ok1 && ok2 && least <= most
}

// parseNumber goes digit by digit, since strconv would take a sign, too.
func parseNumber(text string, b bound) (int, bool) {
	if len(text) < 1 || len(text) > 2 {
		return 0, false
	}
	n := 0
	for _, d := range []byte(text) {
		if d < '0' || d > '9' {
			return 0, false
		}
		n = 10*n + int(d-'0')
	}
	return n, b.has(n)
}

func printWord(set uint64, star bool) string {
	if star {
		return "*"
	}
	var rows []string
	first, ok := from(set, 0)
	for ok {
		behind, _ := from(^set, first)
		rows = append(rows, printRow(first, behind-1))
		first, ok = from(set, behind)
	}
	return strings.Join(rows, ",")
}

func printRow(first, last int) string {
	if first == last {
		return strconv.Itoa(first)
	}
	return strconv.Itoa(first) + "-" + strconv.Itoa(last)
}
