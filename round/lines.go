package round

import (
	"slices"
	"strconv"
	"strings"

	"nock/api"
)

// maxDigits is how many digits a number of a text has at most.
const maxDigits = 9

// entry is what a line of a text says.
type entry interface {
	print() string
}

type legEntry struct{ api.RoundLeg }

type archerEntry struct{ api.RoundArcher }

type offEntry struct{ api.RoundOff }

func (e legEntry) print() string {
	return row("leg", printNumbers(" ", e.Far, e.Ends, e.Arrows, e.Best))
}

func (e archerEntry) print() string {
	return row("archer", e.Name, printNumbers(" ", e.Class), outWord(e.Out), printList(e.Arrows))
}

func (e offEntry) print() string {
	return row("off", printNumbers(" ", e.Number, e.Far))
}

// row returns a line of a word and fields.
func row(parts ...string) string {
	return strings.Join(parts, " ") + "\n"
}

func printNumbers(between string, numbers ...int) string {
	var parts []string
	for _, n := range numbers {
		parts = append(parts, strconv.Itoa(n))
	}
	return strings.Join(parts, between)
}

func printList(numbers []int) string {
	if len(numbers) == 0 {
		return "-"
	}
	return printNumbers("/", numbers...)
}

// outWord returns the word that says whether an archer is out.
func outWord(out bool) string {
	if out {
		return "out"
	}
	return "in"
}

// fields are what follows the word of a line. They are taken one after the other; wrong says that one of them lacked, or did not have its form.
type fields struct {
	left  []string
	wrong bool
}

// need says that the line is wrong if something is not so.
func (f *fields) need(so bool) {
	f.wrong = f.wrong || !so
}

func (f *fields) take() string {
	f.need(len(f.left) > 0)
	if f.wrong {
		return ""
	}
	next := f.left[0]
	f.left = f.left[1:]
	return next
}

// read reads a number that is written as it would be printed.
func (f *fields) read(text string) int {
	n, err := strconv.Atoi(text)
	f.need(err == nil && strconv.Itoa(n) == text && len(strings.TrimPrefix(text, "-")) <= maxDigits)
	return n
}

func (f *fields) number() int {
	return f.read(f.take())
}

func (f *fields) list() []int {
	text := f.take()
	if text == printList(nil) {
		return nil
	}
	var numbers []int
	for part := range strings.SplitSeq(text, "/") {
		numbers = append(numbers, f.read(part))
	}
	return numbers
}

func (f *fields) out() bool {
	word := f.take()
	f.need(word == outWord(true) || word == outWord(false))
	return word == outWord(true)
}

// readEntry reads one line, without its line feed.
func readEntry(line string) (e entry, found bool) {
	parts := strings.Split(line, " ")
	if slices.Contains(parts, "") {
		return nil, false
	}
	f := fields{left: parts[1:]}
	switch parts[0] {
	case "leg":
		e = legEntry{api.RoundLeg{Far: f.number(), Ends: f.number(), Arrows: f.number(), Best: f.number()}}
	case "archer":
		e = archerEntry{api.RoundArcher{Name: f.take(), Class: f.number(), Out: f.out(), Arrows: f.list()}}
	case "off":
		e = offEntry{api.RoundOff{Number: f.number(), Far: f.number()}}
	default:
		return nil, false
	}
	if f.wrong || len(f.left) > 0 {
		return nil, false
	}
	return e, true
}
