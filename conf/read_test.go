package conf_test

import (
	"math/rand"
	"reflect"
	"regexp"
	"strings"
	"testing"

	"nightwatch/api"
	"nightwatch/conf"
)

const head = "window 1 1\ncycle 1\ndelay 0\n"

func reads(t *testing.T, s string, want api.Config) {
	t.Helper()
	c, err := conf.Read(s)
	if err != nil || !reflect.DeepEqual(c, want) {
		t.Errorf("Read(%q): got %+v, %v, want %+v", s, c, err, want)
	}
}

// readsNot tells the error, and holds the config with it to be none.
func readsNot(t *testing.T, s string) error {
	t.Helper()
	c, err := conf.Read(s)
	if err == nil || !reflect.DeepEqual(c, api.Config{}) {
		t.Errorf("Read(%q): got %+v, %v, want an error", s, c, err)
	}
	return err
}

// P42

func TestRead(t *testing.T) {
	reads(t, fullText, full())
	reads(t, strings.TrimSuffix(fullText, "\n"), full())
	reads(t, head, api.Config{Closed: 1, Open: 1, Cycle: 1})
	reads(t, "window 0 1000\ncycle 100\ndelay 20", api.Config{Open: 1000, Cycle: 100, Delay: 20})
	reads(t, head+"entity point 20\npoint point\ngap point point 0 1099511627776", api.Config{Closed: 1, Open: 1, Cycle: 1, Entities: []api.Entity{
		{Name: "point", Tolerance: 20, Points: []string{"point"}, Count: -1, Gaps: []api.Gap{{Max: api.MaxTick}}},
	}})
	reads(t, head+"entity e 0\npoint a\npoint b\ncount a 0 999\nentity f 0\npoint b\npoint a\ncount a 0 0", api.Config{Closed: 1, Open: 1, Cycle: 1, Entities: []api.Entity{
		{Name: "e", Points: []string{"a", "b"}, Max: 999}, {Name: "f", Points: []string{"b", "a"}, Count: 1},
	}})
}

func TestReadAnswersNewMemory(t *testing.T) {
	c, _ := conf.Read(fullText)
	c.Entities[1].Points[0], c.Entities[1].First[0], c.Entities[1].Edges[0] = "x", 9, [2]int{9, 9}
	reads(t, fullText, full())
}

// Each line of the full text, with a word too few, one too much, an empty one,
// and with blanks and other bytes where none may be.
func TestReadOfLinesThatAreNone(t *testing.T) {
	lines := strings.SplitAfter(fullText, "\n")
	for i, l := range lines[:len(lines)-1] {
		l = strings.TrimSuffix(l, "\n")
		words := strings.Split(l, " ")
		wrong := []string{
			"", " ", "x", "x " + l, words[0], l[:strings.LastIndex(l, " ")], l[:strings.LastIndex(l, " ")+1], l + " 1", l + " a", l + " ", " " + l, "\t" + l,
			strings.Replace(l, " ", "  ", 1), strings.Replace(l, " ", "\t", 1), strings.ToUpper(words[0]) + l[len(words[0]):], words[0] + "s" + l[len(words[0]):],
			words[0][1:] + l[len(words[0]):], "#" + l, "\r", "\x00",
		}
		for _, x := range wrong {
			for _, rest := range []string{strings.Join(lines[i+1:], ""), ""} {
				faults(t, readsNot(t, strings.Join(lines[:i], "")+x+"\n"+rest), i, api.ErrText)
				if t.Failed() {
					t.Fatalf("line %d as %q", i, x)
				}
			}
		}
	}
}

func TestReadOfNumbersThatAreNone(t *testing.T) {
	for _, n := range []string{
		"00", "01", "007", "-1", "-0", "+1", "1.", "1.0", "1e1", "0x1", "1_0", "a", "1a", "a1", "１", "²", "1\r", "1\t", "/", ":", "1/", "1:",
		"10000000000000", "00000000000001", "99999999999999", "18446744073709551617", strings.Repeat("9", 99),
	} {
		for i, s := range []string{
			"window N 1", "window 1 N", "window 1 1\ncycle N", "window 1 1\ncycle 1\ndelay N",
			head + "entity e N", head + "entity e 0\npoint a\ncount a N 1", head + "entity e 0\npoint a\ncount a 1 N",
			head + "entity e 0\npoint a\ngap a a N 1", head + "entity e 0\npoint a\ngap a a 1 N", head + "entity e 0\npoint a\ngap b b N 1",
		} {
			s = strings.Replace(s, "N", n, 1)
			faults(t, readsNot(t, s), strings.Count(s, "\n"), api.ErrText)
			if t.Failed() {
				t.Fatal(i, n)
			}
		}
	}
}

// Thirteen digits are a number: that it is too great, Check tells.
func TestReadOfNumbersThatAreGreat(t *testing.T) {
	const n = "9999999999999"
	for _, s := range []string{"window N 1\ncycle 1\ndelay 0", "window 1 N\ncycle 1\ndelay 0", "window 1 1\ncycle N\ndelay 0", "window 1 1\ncycle 1\ndelay N"} {
		fails(t, readsNot(t, strings.Replace(s, "N", n, 1)), api.ErrBound)
	}
	for _, s := range []string{"entity e N\npoint a", "entity e 0\npoint a\ncount a 1 N", "entity e 0\npoint a\ngap a a 1 N", "entity e 0\npoint a\ngap a a 0 1099511627777"} {
		faults(t, readsNot(t, head+strings.Replace(s, "N", n, 1)), 0, api.ErrBound)
	}
}

func TestReadOfTheLinesEnds(t *testing.T) {
	for _, w := range []struct {
		s  string
		at int
	}{
		{"", 0}, {"\n", 0}, {"\n\n", 0}, {"\n" + head, 0}, {head + "\n", 3}, {head + "\n\n", 3}, {fullText + "\n", 17}, {head + " ", 3}, {head + "\r\n", 3},
		{"window 1 1", 1}, {"window 1 1\n", 1}, {"window 1 1\ncycle 1", 2}, {"window 1 1\ncycle 1\n", 2}, {"window 1 1\n\n", 1}, {strings.ReplaceAll(head, "\n", "\r\n"), 0},
		{"window 1 1\n\ncycle 1\ndelay 0", 1}, {head + "\nentity e 0", 3}, {strings.ReplaceAll(head, "\n", "\n\n"), 1},
	} {
		faults(t, readsNot(t, w.s), w.at, api.ErrText)
	}
}

// Kinds of lines by letters, and what is a beginning of a text in them.
var (
	lineOf = map[byte]string{
		'w': "window 1 1", 'c': "cycle 1", 'd': "delay 0", 'e': "entity e 0", 'p': "point a", 'n': "count a 0 1",
		'g': "gap a a 0 1", 'a': "edge a a", 'f': "first a", 'l': "last a",
	}
	beginning = regexp.MustCompile(`^(w(c(d(ep*n?g*a*f*l*)*)?)?)?$`)
)

// placed tells the line, and its error, at which lines of these kinds are wrong; nil: nowhere.
func placed(kinds string) (int, error) {
	for i := range kinds {
		if !beginning.MatchString(kinds[:i+1]) {
			return i, api.ErrText
		}
		of := kinds[strings.LastIndex(kinds[:i+1], "e")+1 : i+1]
		if strings.Contains("ngafl", kinds[i:i+1]) && !strings.Contains(of, "p") {
			return i, api.ErrNone
		}
	}
	if len(kinds) < 3 {
		return len(kinds), api.ErrText
	}
	return 0, nil
}

func TestReadOfLinesInEachOrder(t *testing.T) {
	right := 0
	var all func(kinds string, more int)
	all = func(kinds string, more int) {
		var lines []string
		for i := range kinds {
			lines = append(lines, lineOf[kinds[i]])
		}
		_, err := conf.Read(strings.Join(lines, "\n"))
		at, want := placed(kinds)
		f, isFault := err.(*api.Fault)
		switch {
		case want != nil:
			if faults(t, err, at, want); t.Failed() {
				t.Fatal(kinds)
			}
		case isFault && (f.Err == api.ErrText || f.Err == api.ErrNone):
			t.Fatalf("%s: At %d: %v, want its lines read", kinds, f.At, f.Err)
		case err == nil:
			right++
		}
		for k := range lineOf {
			if more > 0 {
				all(kinds+string(k), more-1)
			}
		}
	}
	all("", 4)
	all("wcde", 3)
	all("wcdep", 4)
	if right == 0 {
		t.Error("no order was right")
	}
}

func TestReadOfPointsThatAreNone(t *testing.T) {
	const e = head + "entity d 0\npoint x\nentity e 0\npoint a\n"
	for _, l := range []string{
		"count b 0 1", "count x 0 1", "count A 0 1", "count 0 0 1", "gap b a 0 1", "gap a b 0 1", "gap b b 0 1", "gap x x 1 0", "edge a b", "edge b a", "edge d e", "first b", "first aa", "last x", "last e",
	} {
		faults(t, readsNot(t, e+l), 7, api.ErrNone)
		faults(t, readsNot(t, e+l+"\nx"), 7, api.ErrNone)
		faults(t, readsNot(t, e+l+"\nfirst a"), 7, api.ErrNone)
	}
	for _, l := range []string{"count b 0", "count b 0 01", "gap b a 0 x", "gap b a 0 1 1", "gap a b 0", "edge b", "edge b ", "edge b a a", "first b b"} {
		faults(t, readsNot(t, e+l), 7, api.ErrText)
	}
	faults(t, readsNot(t, e+"last a\nfirst b"), 8, api.ErrText)
	faults(t, readsNot(t, e+"x\nfirst b"), 7, api.ErrText)
}

// The errors of Check come behind all lines.
func TestReadThenChecks(t *testing.T) {
	for _, w := range []struct {
		s    string
		at   int
		want error
	}{
		{"entity E 0", 0, api.ErrName}, {"entity a\tb 0", 0, api.ErrName}, {"entity e\r 0", 0, api.ErrName}, {"entity e 0\nentity 9 0", 1, api.ErrName},
		{"entity e 0\nentity e 0", 1, api.ErrExist}, {"entity e 21", 0, api.ErrBound}, {"entity e 0\npoint a\npoint -", 0, api.ErrName},
		{"entity e 0\npoint \xff", 0, api.ErrName}, {"entity e 0\npoint a\r\npoint b\r", 0, api.ErrName}, {"entity e 0\npoint a\npoint a", 0, api.ErrExist},
		{"entity e 0\npoint a\npoint a\ncount a 1 0", 0, api.ErrExist}, {"entity e 0\npoint a\ncount a 1 0", 0, api.ErrBound}, {"entity e 0\npoint a\ncount a 1 1000", 0, api.ErrBound},
		{"entity e 0\npoint a\ngap a a 1 0", 0, api.ErrBound}, {"entity e 0\npoint a\nedge a a\nedge a a\nfirst a", 0, api.ErrExist},
		{"entity e 0\npoint a\nedge a a\nfirst a\nfirst a", 0, api.ErrExist}, {"entity e 0\npoint a\nedge a a\nfirst a\nlast a\nlast a", 0, api.ErrExist},
		{"entity e 0\npoint a\nedge a a", 0, api.ErrShape}, {"entity e 0\npoint a\nedge a a\nlast a", 0, api.ErrShape}, {"entity e 0\npoint a\nlast a", 0, api.ErrShape},
		{"entity e 0\n" + strings.Repeat("point a\n", api.MaxPoints+1), 0, api.ErrBound},
		{"entity e 0\npoint a\n" + strings.Repeat("gap a a 0 1\n", api.MaxGaps+1), 0, api.ErrBound},
		{"entity e 0\npoint a\n" + strings.Repeat("edge a a\n", api.MaxEdges+1), 0, api.ErrBound},
		{"entity e 0\npoint a\n" + strings.Repeat("last a\n", api.MaxPoints+1), 0, api.ErrBound},
	} {
		faults(t, readsNot(t, head+w.s), w.at, w.want)
		lines := strings.TrimSuffix(head+w.s, "\n")
		faults(t, readsNot(t, lines+"\nx"), strings.Count(lines, "\n")+1, api.ErrText)
	}
	fails(t, readsNot(t, "window 0 0\ncycle 1\ndelay 0"), api.ErrBound)
	fails(t, readsNot(t, "window 0 1\ncycle 2\ndelay 0\nentity E 0"), api.ErrShape)
	fails(t, readsNot(t, head+strings.Repeat("entity e 0\n", api.MaxEntities+1)), api.ErrBound)
	faults(t, readsNot(t, "window 0 0\ncycle 1\nentity e 0"), 2, api.ErrText)
}

// long is a right config whose text has just n bytes: edges are taken away while
// it is too long, then names are made longer.
func long(t *testing.T, n int) (api.Config, string) {
	t.Helper()
	c := api.Config{Open: 1, Cycle: 1}
	for _, s := range names(api.MaxEntities) {
		c.Entities = append(c.Entities, great(s))
	}
	s := text(t, c)
	for i := 0; len(s) > n; i++ {
		e := &c.Entities[i%api.MaxEntities]
		e.Edges = e.Edges[1:]
		s = text(t, c)
	}
	for i := 0; len(s) < n; i++ {
		c.Entities[i%api.MaxEntities].Name += "x"
		s = text(t, c)
	}
	return c, s
}

func text(t *testing.T, c api.Config) string {
	t.Helper()
	s, err := conf.Text(c)
	if err != nil {
		t.Fatalf("Text(%+v): %v", c, err)
	}
	return s
}

func TestReadOfLongTexts(t *testing.T) {
	c, s := long(t, api.MaxText)
	reads(t, s, c)
	reads(t, s[:len(s)-1], c)
	c, s = long(t, api.MaxText+1)
	fails(t, readsNot(t, s), api.ErrBound)
	reads(t, s[:len(s)-1], c)
	faults(t, readsNot(t, strings.Repeat("x", api.MaxText)), 0, api.ErrText)
	fails(t, readsNot(t, strings.Repeat("x", api.MaxText+1)), api.ErrBound)
	fails(t, readsNot(t, strings.Repeat("\n", api.MaxText+1)), api.ErrBound)
	fails(t, readsNot(t, head+strings.Repeat(" ", api.MaxText)), api.ErrBound)
}

// P43

// some of the numbers below n, in some order, none of them twice.
func some(r *rand.Rand, n, most int) []int {
	l := r.Perm(n)
	l = l[:r.Intn(min(n, most)+1)]
	if len(l) == 0 {
		return nil
	}
	return l
}

func someEntity(r *rand.Rand, name string) api.Entity {
	e := api.Entity{Name: name, Tolerance: r.Intn(api.MaxTolerance + 1), Count: -1}
	for i, s := range names(r.Intn(api.MaxPoints + 1)) {
		e.Points = append(e.Points, s+strings.Repeat("-", r.Intn(3)*i%9))
	}
	n := len(e.Points)
	if n == 0 {
		return e
	}
	if e.Count = r.Intn(n+1) - 1; e.Count >= 0 {
		e.Max = r.Intn(api.MaxCount)
		e.Min = r.Intn(e.Max + 1)
	}
	for range r.Intn(api.MaxGaps + 1) {
		g := api.Gap{From: r.Intn(n), To: r.Intn(n), Max: r.Intn(api.MaxTick + 1)}
		g.Min = r.Intn(g.Max + 1)
		e.Gaps = append(e.Gaps, g)
	}
	for _, d := range some(r, n*n, api.MaxEdges) {
		e.Edges = append(e.Edges, [2]int{d / n, d % n})
	}
	if e.Edges != nil {
		e.First = append(some(r, n-1, n), n-1)
		e.Last = some(r, n, n)
	}
	return e
}

func someConfig(r *rand.Rand) api.Config {
	c := api.Config{Closed: r.Intn(api.MaxWindow + 1), Open: 1 + r.Intn(api.MaxWindow), Delay: r.Intn(api.MaxDelay + 1)}
	c.Cycle = 1 + r.Intn(min(c.Open, api.MaxCycle))
	for _, s := range names(r.Intn(api.MaxEntities + 1)) {
		c.Entities = append(c.Entities, someEntity(r, "e"+s))
	}
	return c
}

func TestWhatIsWrittenIsRead(t *testing.T) {
	r := rand.New(rand.NewSource(4))
	for range 2000 {
		c := someConfig(r)
		s := text(t, c)
		if len(s) > api.MaxText {
			fails(t, readsNot(t, s), api.ErrBound)
			continue
		}
		reads(t, s, c)
		reads(t, s[:len(s)-1], c)
	}
}

// And nothing else is read: a text with some bytes changed is none, or it is
// what Text makes of what was read.
func TestWhatIsReadWasWritten(t *testing.T) {
	const bytes = "abcxp01289- \n\x00\xff"
	r := rand.New(rand.NewSource(43))
	right := 0
	for range 50000 {
		s := fullText
		for range 1 + r.Intn(3) {
			i := r.Intn(len(s))
			j := min(len(s), i+r.Intn(3))
			k := r.Intn(len(bytes))
			s = s[:i] + bytes[k:min(len(bytes), k+r.Intn(3))] + s[j:]
		}
		c, err := conf.Read(s)
		if err != nil {
			continue
		}
		right++
		again, err := conf.Text(c)
		if err != nil || again != strings.TrimSuffix(s, "\n")+"\n" {
			t.Fatalf("%q is read, and written as %q, %v", s, again, err)
		}
	}
	if right < 100 {
		t.Errorf("only %d texts were right", right)
	}
}
