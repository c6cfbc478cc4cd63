package conf

import (
	"strings"

	"nightwatch/api"
)

const maxDigits = 13 // as many as MaxTick has

// reader of lines; the config is as far as they were read.
type reader struct {
	api.Config
	last   kind           // of the line ahead
	points map[string]int // places by names, of the entity that is read
}

func readLines(lines []string) (api.Config, error) {
	r := reader{last: noLine}
	for i, l := range lines {
		if err := r.line(l); err != nil {
			return api.Config{}, &api.Fault{At: i, Err: err}
		}
	}
	if r.last < delayLine {
		return api.Config{}, &api.Fault{At: len(lines), Err: api.ErrText}
	}
	return r.Config, nil
}

func (r *reader) line(l string) error {
	words := strings.Split(l, " ")
	k := kindOf(words[0])
	if k == noLine || !r.mayStand(k) {
		return api.ErrText
	}
	r.last = k
	return r.take(k, words[1:])
}

// mayStand tells whether a line of this kind may stand behind the last one.
func (r *reader) mayStand(k kind) bool {
	switch {
	case k <= delayLine:
		return r.last == k-1
	case k == entityLine:
		return r.last >= delayLine
	case k == countLine:
		return r.last >= entityLine && r.last < k
	}
	return r.last >= entityLine && r.last <= k
}

func (r *reader) take(k kind, words []string) error {
	switch k {
	case windowLine:
		return r.fill(words, &r.Closed, &r.Open)
	case cycleLine:
		return r.fill(words, &r.Cycle)
	case delayLine:
		return r.fill(words, &r.Delay)
	case entityLine:
		return r.takeEntity(words)
	}
	return r.takePart(&r.Entities[len(r.Entities)-1], k, words)
}

func (r *reader) takeEntity(words []string) error {
	e := api.Entity{Count: -1}
	err := r.fill(words, &e.Name, &e.Tolerance)
	r.Entities = append(r.Entities, e)
	r.points = map[string]int{}
	return err
}

// takePart keeps a part also where it is wrong: nobody sees the config then.
func (r *reader) takePart(e *api.Entity, k kind, words []string) error {
	var p, q place
	var err error
	switch k {
	case pointLine:
		err = r.takePoint(e, words)
	case countLine:
		err = r.fill(words, &p, &e.Min, &e.Max)
		e.Count = int(p)
	case gapLine:
		var g api.Gap
		err = r.fill(words, &p, &q, &g.Min, &g.Max)
		g.From, g.To = int(p), int(q)
		e.Gaps = append(e.Gaps, g)
	case edgeLine:
		err = r.fill(words, &p, &q)
		e.Edges = append(e.Edges, [2]int{int(p), int(q)})
	case firstLine:
		err = r.fill(words, &p)
		e.First = append(e.First, int(p))
	case lastLine:
		err = r.fill(words, &p)
		e.Last = append(e.Last, int(p))
	}
	return err
}

func (r *reader) takePoint(e *api.Entity, words []string) error {
	var s string
	err := r.fill(words, &s)
	r.points[s] = len(e.Points)
	e.Points = append(e.Points, s)
	return err
}

// fill reads each word into what waits for it. A word that is none is told ahead
// of a point that is none, wherever they stand in the line.
func (r *reader) fill(words []string, into ...any) error {
	if len(words) != len(into) {
		return api.ErrText
	}
	var none error
	for i, w := range words {
		switch err := r.word(w, into[i]); err {
		case api.ErrText:
			return err
		case api.ErrNone:
			none = err
		}
	}
	return none
}

func (r *reader) word(w string, into any) error {
	if w == "" {
		return api.ErrText
	}
	switch x := into.(type) {
	case *string:
		*x = w
	case *int:
		n, ok := number(w)
		if !ok {
			return api.ErrText
		}
		*x = n
	case *place:
		p, ok := r.points[w]
		if !ok {
			return api.ErrNone
		}
		*x = place(p)
	}
	return nil
}

// number of a word that is not empty.
func number(w string) (int, bool) {
	if len(w) > maxDigits || w[0] == '0' && len(w) > 1 {
		return 0, false
	}
	n := 0
	for _, b := range []byte(w) {
		if !isDigit(b) {
			return 0, false
		}
		n = n*10 + int(b-'0')
	}
	return n, true
}
