package conf_test

import (
	"strings"
	"testing"

	"nightwatch/api"
	"nightwatch/conf"
)

const fullText = `window 3 5
cycle 2
delay 1
entity idle 0
entity motor 2
point a
point b-2
point c
count b-2 1 3
gap a b-2 0 7
gap c c 4 4
edge a b-2
edge b-2 a
edge b-2 c
first a
first c
last b-2
`

// P41

func TestText(t *testing.T) {
	for _, w := range []struct {
		c    api.Config
		want string
	}{
		{full(), fullText},
		{api.Config{Open: 1, Cycle: 1}, "window 0 1\ncycle 1\ndelay 0\n"},
		{
			api.Config{Closed: 1000, Open: 1000, Cycle: 100, Delay: 20, Entities: []api.Entity{{Name: "e", Points: []string{"p"}}}},
			"window 1000 1000\ncycle 100\ndelay 20\nentity e 0\npoint p\ncount p 0 0\n",
		},
		{
			api.Config{Open: 1, Cycle: 1, Entities: []api.Entity{{Name: "e", Count: -1, Points: []string{"b", "a"}, Gaps: []api.Gap{{From: 1, Max: api.MaxTick}}}}},
			"window 0 1\ncycle 1\ndelay 0\nentity e 0\npoint b\npoint a\ngap a b 0 1099511627776\n",
		},
		{
			api.Config{Open: 1, Cycle: 1, Entities: []api.Entity{{Name: "z", Count: -1, Points: []string{"p"}}, {Name: "e", Points: []string{"q"}, Edges: [][2]int{{0, 0}}, First: []int{0}}}},
			"window 0 1\ncycle 1\ndelay 0\nentity z 0\npoint p\nentity e 0\npoint q\ncount q 0 0\nedge q q\nfirst q\n",
		},
	} {
		s, err := conf.Text(w.c)
		fails(t, err, nil)
		if s != w.want {
			t.Errorf("got %q, want %q", s, w.want)
		}
	}
}

func TestTextHasTheErrorsOfCheck(t *testing.T) {
	for _, f := range flaws {
		c := full()
		f.make(&c.Entities[1])
		s, err := conf.Text(c)
		faults(t, err, 1, f.want)
		if s != "" {
			t.Errorf("a text with an error: %q", s)
		}
	}
	for _, w := range []struct {
		c    api.Config
		want error
	}{{api.Config{}, api.ErrBound}, {api.Config{Open: 1, Cycle: 2}, api.ErrShape}} {
		s, err := conf.Text(w.c)
		fails(t, err, w.want)
		if s != "" {
			t.Errorf("a text with an error: %q", s)
		}
	}
}

// That a text is longer than what Read takes is no error of Check's.
func TestTextMayBeLong(t *testing.T) {
	c := full()
	c.Entities = nil
	for _, s := range names(api.MaxEntities) {
		c.Entities = append(c.Entities, great(s))
	}
	s, err := conf.Text(c)
	fails(t, err, nil)
	if len(s) <= api.MaxText || strings.Count(s, "\n") != 3+api.MaxEntities*(2+3*api.MaxPoints+api.MaxGaps+api.MaxEdges) {
		t.Errorf("%d bytes, %d lines", len(s), strings.Count(s, "\n"))
	}
	_, err = conf.Read(s)
	fails(t, err, api.ErrBound)
}
