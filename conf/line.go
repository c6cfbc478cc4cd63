package conf

// kind of a line, in the order in which lines stand: those from entityLine on
// stand once for each entity.
type kind int

const (
	noLine kind = iota - 1
	windowLine
	cycleLine
	delayLine
	entityLine
	pointLine
	countLine
	gapLine
	edgeLine
	firstLine
	lastLine
)

// keywords by kind.
var keywords = [...]string{"window", "cycle", "delay", "entity", "point", "count", "gap", "edge", "first", "last"}

func kindOf(word string) kind {
	for i, w := range keywords {
		if w == word {
			return kind(i)
		}
	}
	return noLine
}

// place of a point in its entity; a line has the point's name for it.
type place int
