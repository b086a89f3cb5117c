package butt

import (
	"slices"
	"strconv"
	"strings"

	"nock/api"
)

// maxDigits is how many digits a number of a text has at most.
const maxDigits = 9

// entry is what a line of a text says.
type entry interface {
	print() string
}

type bossEntry struct{ limit, swaps int }

type layerEntry struct{ api.ButtLayer }

type sessionEntry struct{ api.ButtSession }

type groundEntry struct{}

type standEntry struct{ api.ButtStand }

type archerEntry struct{ api.ButtArcher }

func (e bossEntry) print() string {
	return row("boss", printNumbers(e.limit, e.swaps))
}

func (e layerEntry) print() string {
	return row("layer", printNumbers(e.Wear...))
}

func (e sessionEntry) print() string {
	parts := []string{"session"}
	for _, x := range e.Load {
		parts = append(parts, printSpan(x))
	}
	return row(parts...)
}

func (e groundEntry) print() string {
	return row("ground")
}

func (e standEntry) print() string {
	return row("stand", e.Name, printNumbers(e.Far, e.Size, e.Seats))
}

func (e archerEntry) print() string {
	return row("archer", e.Name, printNumbers(e.Size, e.Near, e.Far))
}

// row returns a line of a word and fields.
func row(parts ...string) string {
	return strings.Join(parts, " ") + "\n"
}

// printNumbers returns fields, each of which is a number.
func printNumbers(numbers ...int) string {
	var parts []string
	for _, n := range numbers {
		parts = append(parts, strconv.Itoa(n))
	}
	return strings.Join(parts, " ")
}

func printSpan(x api.Span) string {
	if x.Min == x.Max {
		return strconv.Itoa(x.Min)
	}
	return strconv.Itoa(x.Min) + ".." + strconv.Itoa(x.Max)
}

// fields are what follows the word of a line. They are taken one after the other; wrong says that one of them lacked, or did not have its form.
type fields struct {
	left  []string
	wrong bool
}

// need says that the line is wrong if something is not so.
func (f *fields) need(so bool) {
	f.wrong = f.wrong || !so
}

func (f *fields) take() string {
	f.need(len(f.left) > 0)
	if f.wrong {
		return ""
	}
	next := f.left[0]
	f.left = f.left[1:]
	return next
}

// read reads a number that is written as it would be printed.
func (f *fields) read(text string) int {
	n, err := strconv.Atoi(text)
	f.need(err == nil && strconv.Itoa(n) == text && len(strings.TrimPrefix(text, "-")) <= maxDigits)
	return n
}

func (f *fields) number() int {
	return f.read(f.take())
}

// span reads a span that is written as it would be printed, though its Min may be above its Max.
func (f *fields) span() api.Span {
	left, right, dots := strings.Cut(f.take(), "..")
	x := api.Span{Min: f.read(left)}
	if !dots {
		x.Max = x.Min
		return x
	}
	x.Max = f.read(right)
	f.need(x.Min != x.Max)
	return x
}

// readQuarters reads a field for each quarter, or each position.
func readQuarters[T any](read func() T) []T {
	var all []T
	for range allQuarters {
		all = append(all, read())
	}
	return all
}

// readEntry reads one line, without its line feed.
func readEntry(line string) (e entry, found bool) {
	parts := strings.Split(line, " ")
	if slices.Contains(parts, "") {
		return nil, false
	}
	f := &fields{left: parts[1:]}
	switch parts[0] {
	case "boss":
		e = bossEntry{f.number(), f.number()}
	case "layer":
		e = layerEntry{api.ButtLayer{Wear: readQuarters(f.number)}}
	case "session":
		e = sessionEntry{api.ButtSession{Load: readQuarters(f.span)}}
	case "ground":
		e = groundEntry{}
	case "stand":
		e = standEntry{api.ButtStand{Name: f.take(), Far: f.number(), Size: f.number(), Seats: f.number()}}
	case "archer":
		e = archerEntry{api.ButtArcher{Name: f.take(), Size: f.number(), Near: f.number(), Far: f.number()}}
	default:
		return nil, false
	}
	if f.wrong || len(f.left) > 0 {
		return nil, false
	}
	return e, true
}
