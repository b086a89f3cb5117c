package arrow

import (
	"slices"
	"strconv"
	"strings"

	"nock/api"
)

// maxNumber is the greatest number of 9 digits: a text has no greater one.
const maxNumber = 999999999

// entry is what a line of a text says.
type entry interface {
	print() string
}

type ruleEntry struct{ api.ArrowRule }

type shaftEntry struct{ api.ArrowShaft }

type sightEntry struct{ api.SightRule }

type shotEntry struct{ api.SightShot }

func (e ruleEntry) print() string {
	return row("rule", printNumber(e.Spine), printNumber(e.Length), printNumber(e.Weight), printNumber(e.Many))
}

func (e shaftEntry) print() string {
	return row("shaft", e.Name, printSpan(e.Spine), printSpan(e.Length), printSpan(e.Weight))
}

func (e sightEntry) print() string {
	return row("sight", printNumber(e.Least), printNumber(e.Most), printNumber(e.Wind), printNumber(e.Light))
}

func (e shotEntry) print() string {
	return row("shot", printNumber(e.At), printSpan(e.Mark), printNumber(e.Wind), printNumber(e.Light))
}

// row returns a line of a word and fields.
func row(parts ...string) string {
	return strings.Join(parts, " ") + "\n"
}

func printNumber(n int) string {
	return strconv.Itoa(n)
}

func printSpan(x api.Span) string {
	if x.Min == x.Max {
		return printNumber(x.Min)
	}
	return printNumber(x.Min) + ".." + printNumber(x.Max)
}

// readNumber reads a number that is written as it would be printed.
func readNumber(text string) (n int, found bool) {
	n, err := strconv.Atoi(text)
	if err != nil || n < -maxNumber || n > maxNumber || printNumber(n) != text {
		return 0, false
	}
	return n, true
}

// readSpan reads a span that is written as it would be printed, though its Min may be above its Max.
func readSpan(text string) (x api.Span, found bool) {
	left, right, two := strings.Cut(text, "..")
	if !two {
		right = left
	}
	least, ok := readNumber(left)
	most, also := readNumber(right)
	if !ok || !also || two && least == most {
		return api.Span{}, false
	}
	return api.Span{Min: least, Max: most}, true
}

// fields are what follows the word of a line. They are taken one after the other; wrong says that one of them lacked, or did not have its form.
type fields struct {
	left  []string
	wrong bool
}

func (f *fields) take() string {
	if len(f.left) == 0 {
		f.wrong = true
		return ""
	}
	first := f.left[0]
	f.left = f.left[1:]
	return first
}

func (f *fields) number() int {
	n, found := readNumber(f.take())
	f.wrong = f.wrong || !found
	return n
}

func (f *fields) span() api.Span {
	x, found := readSpan(f.take())
	f.wrong = f.wrong || !found
	return x
}

// readEntry reads one line, without its line feed.
func readEntry(line string) (e entry, found bool) {
	parts := strings.Split(line, " ")
	if slices.Contains(parts, "") {
		return nil, false
	}
	f := fields{left: parts[1:]}
	switch parts[0] {
	case "rule":
		e = ruleEntry{api.ArrowRule{Spine: f.number(), Length: f.number(), Weight: f.number(), Many: f.number()}}
	case "shaft":
		e = shaftEntry{api.ArrowShaft{Name: f.take(), Spine: f.span(), Length: f.span(), Weight: f.span()}}
	case "sight":
		e = sightEntry{api.SightRule{Least: f.number(), Most: f.number(), Wind: f.number(), Light: f.number()}}
	case "shot":
		e = shotEntry{api.SightShot{At: f.number(), Mark: f.span(), Wind: f.number(), Light: f.number()}}
	default:
		return nil, false
	}
	if f.wrong || len(f.left) > 0 {
		return nil, false
	}
	return e, true
}
