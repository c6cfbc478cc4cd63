package conf

import (
	"strconv"
	"strings"

	"nightwatch/api"
)

// page is a text that is written line by line.
type page struct {
	strings.Builder
	points []string // of the entity that is written
}

func (p *page) config(c api.Config) {
	p.line(windowLine, c.Closed, c.Open)
	p.line(cycleLine, c.Cycle)
	p.line(delayLine, c.Delay)
	for _, e := range c.Entities {
		p.entity(e)
	}
}

func (p *page) entity(e api.Entity) {
	p.points = e.Points
	p.line(entityLine, e.Name, e.Tolerance)
	for _, s := range e.Points {
		p.line(pointLine, s)
	}
	if e.Count != -1 {
		p.line(countLine, place(e.Count), e.Min, e.Max)
	}
	for _, g := range e.Gaps {
		p.line(gapLine, place(g.From), place(g.To), g.Min, g.Max)
	}
	for _, d := range e.Edges {
		p.line(edgeLine, place(d[0]), place(d[1]))
	}
	for _, f := range e.First {
		p.line(firstLine, place(f))
	}
	for _, l := range e.Last {
		p.line(lastLine, place(l))
	}
}

func (p *page) line(words ...any) {
	for i, w := range words {
		if i > 0 {
			p.WriteByte(' ')
		}
		p.word(w)
	}
	p.WriteByte('\n')
}

func (p *page) word(w any) {
	switch x := w.(type) {
	case kind:
		p.WriteString(keywords[x])
	case string:
		p.WriteString(x)
	case int:
		p.WriteString(strconv.Itoa(x))
	case place:
		p.WriteString(p.points[x])
	}
}
