package script

import (
	"strconv"
	"strings"

	"nightwatch/api"
)

// At most so many digits. A point is written as any number is: only of entities
// it is said that they have one digit.
const (
	entity = 1
	point  = 5
	number = 5
)

// command of a script: of each number behind its word how many digits it may
// have, and what it answers to these numbers.
type command struct {
	digits []int
	answer func(n []int) (string, error)
}

// commands of a player, by their words.
func commands(p player) map[string]command {
	return map[string]command{
		"begin":  {[]int{entity}, func(n []int) (string, error) { return done(p.Begin(n[0])) }},
		"stop":   {[]int{entity}, func(n []int) (string, error) { return done(p.Stop(n[0])) }},
		"report": {[]int{entity, point}, func(n []int) (string, error) { return done(p.Report(n[0], n[1])) }},
		"tick":   {[]int{number}, func(n []int) (string, error) { return done(p.tickTimes(n[0])) }},
		"cut":    {[]int{number}, func(n []int) (string, error) { return done(p.cells.Cut(n[0])) }},
		"boot":   {nil, func([]int) (string, error) { return done(p.Boot()) }},
		"now":    {nil, func([]int) (string, error) { return strconv.Itoa(p.Now()), nil }},
		"kicks":  {nil, func([]int) (string, error) { return strconv.Itoa(p.Kicks()), nil }},
		"status": {[]int{entity}, func(n []int) (string, error) { return p.Status(n[0]) }},
		"total":  {nil, func([]int) (string, error) { return p.Total(), nil }},
		"state":  {nil, func([]int) (string, error) { return p.State(), nil }},
		"cause":  {nil, func([]int) (string, error) { return p.causeText(), nil }},
		"log":    {nil, func([]int) (string, error) { return p.logText(), nil }},
		"config": {nil, func([]int) (string, error) { return p.configText() }},
	}
}

func done(err error) (string, error) {
	if err != nil {
		return "", err
	}
	return ok, nil
}

// answer of a line. An error's text has no place in it.
func answer(known map[string]command, line string) string {
	s, err := play(known, line)
	if err != nil {
		return err.Error()
	}
	return s
}

func play(known map[string]command, line string) (string, error) {
	words := strings.Split(line, " ")
	c, is := known[words[0]]
	if !is {
		return "", api.ErrText
	}
	n, err := numbers(words[1:], c.digits)
	if err != nil {
		return "", err
	}
	return c.answer(n)
}

func numbers(words []string, digits []int) ([]int, error) {
	if len(words) != len(digits) {
		return nil, api.ErrText
	}
	l := make([]int, 0, len(words))
	for i, w := range words {
		n, is := read(w, digits[i])
		if !is {
			return nil, api.ErrText
		}
		l = append(l, n)
	}
	return l, nil
}

// read a number. It is held against what it would be written as, since Atoi
// takes signs and needless zeros, too.
func read(w string, digits int) (int, bool) {
	if len(w) > digits {
		return 0, false
	}
	n, err := strconv.Atoi(w)
	if err != nil || n < 0 || strconv.Itoa(n) != w {
		return 0, false
	}
	return n, true
}
