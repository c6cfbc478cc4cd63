package script

import (
	"strconv"
	"strings"

	"nightwatch/api"
	"nightwatch/cells"
	"nightwatch/conf"
	"nightwatch/keeper"
)

// What is told where a call has nothing to tell.
const (
	ok      = "ok"
	nothing = "nothing"
)

// player of commands. It has the keeper's cells and config beside it, since a
// keeper has no cut of its own and does not tell what it watches.
type player struct {
	*keeper.Keeper
	cells  *cells.Cells
	config api.Config
}

func newPlayer(config string) (player, error) {
	c, err := conf.Read(config)
	if err != nil {
		return player{}, err
	}
	n, err := cells.New(api.MaxBytes)
	if err != nil {
		return player{}, err
	}
	k, err := keeper.New(c, n)
	if err != nil {
		return player{}, err
	}
	return player{k, n, c}, nil
}

// tickTimes ends with the first error: that is the answer, whatever ticks behind
// it would be.
func (p player) tickTimes(n int) error {
	for range n {
		if err := p.Tick(); err != nil {
			return err
		}
	}
	return nil
}

func (p player) causeText() string {
	r, is := p.Cause()
	if !is {
		return nothing
	}
	return recordText(r)
}

func (p player) logText() string {
	var texts []string
	for _, r := range p.Log() {
		texts = append(texts, recordText(r))
	}
	if len(texts) == 0 {
		return nothing
	}
	return strings.Join(texts, ", ")
}

// configText is one line: an answer has no line breaks.
func (p player) configText() (string, error) {
	s, err := conf.Text(p.config)
	if err != nil {
		return "", err
	}
	return strings.ReplaceAll(strings.TrimSuffix(s, "\n"), "\n", "; "), nil
}

func recordText(r api.Record) string {
	var words []string
	for _, n := range []int{r.Seq, r.Entity, r.Kind, r.Tick} {
		words = append(words, strconv.Itoa(n))
	}
	return strings.Join(words, " ")
}
