package bracket

import (
	"slices"
	"strconv"
	"strings"

	"nock/api"
)

// maxDigits is how many digits a number of a text has at most.
const maxDigits = 9

// entry is what a line of a text says.
type entry interface {
	print() string
}

type bracketEntry struct{ sets int }

type seedEntry struct{ name string }

type matchEntry struct{ api.BracketResult }

func (e bracketEntry) print() string {
	return row("bracket", strconv.Itoa(e.sets))
}

func (e seedEntry) print() string {
	return row("seed", e.name)
}

func (e matchEntry) print() string {
	return row("match", printNumbers(" ", e.Match, e.One, e.Two), printPairs(e.Sets), printPairs(e.Offs))
}

// row returns a line of a word and fields.
func row(parts ...string) string {
	return strings.Join(parts, " ") + "\n"
}

func printNumbers(between string, numbers ...int) string {
	var parts []string
	for _, n := range numbers {
		parts = append(parts, strconv.Itoa(n))
	}
	return strings.Join(parts, between)
}

// printPairs returns the list of all numbers of pairs.
func printPairs(pairs []api.BracketPair) string {
	if len(pairs) == 0 {
		return "-"
	}
	var numbers []int
	for _, p := range pairs {
		numbers = append(numbers, p.One, p.Two)
	}
	return printNumbers("/", numbers...)
}

// fields are what follows the word of a line. They are taken one after the other; wrong says that one of them lacked, or did not have its form.
type fields struct {
	left  []string
	wrong bool
}

// need says that the line is wrong if something is not so.
func (f *fields) need(so bool) {
	f.wrong = f.wrong || !so
}

func (f *fields) take() string {
	f.need(len(f.left) > 0)
	if f.wrong {
		return ""
	}
	next := f.left[0]
	f.left = f.left[1:]
	return next
}

// read reads a number that is written as it would be printed.
func (f *fields) read(text string) int {
	n, err := strconv.Atoi(text)
	f.need(err == nil && strconv.Itoa(n) == text && len(strings.TrimPrefix(text, "-")) <= maxDigits)
	return n
}

func (f *fields) number() int {
	return f.read(f.take())
}

func (f *fields) list() []int {
	text := f.take()
	if text == printPairs(nil) {
		return nil
	}
	var numbers []int
	for part := range strings.SplitSeq(text, "/") {
		numbers = append(numbers, f.read(part))
	}
	return numbers
}

// pairs reads the list of all numbers of pairs.
func (f *fields) pairs() []api.BracketPair {
	numbers := f.list()
	f.need(len(numbers)%2 == 0)
	var pairs []api.BracketPair
	for i := range len(numbers) / 2 {
		pairs = append(pairs, api.BracketPair{One: numbers[2*i], Two: numbers[2*i+1]})
	}
	return pairs
}

// readEntry reads one line, without its line feed.
func readEntry(line string) (e entry, found bool) {
	parts := strings.Split(line, " ")
	if slices.Contains(parts, "") {
		return nil, false
	}
	f := fields{left: parts[1:]}
	switch parts[0] {
	case "bracket":
		e = bracketEntry{f.number()}
	case "seed":
		e = seedEntry{f.take()}
	case "match":
		e = matchEntry{api.BracketResult{Match: f.number(), One: f.number(), Two: f.number(), Sets: f.pairs(), Offs: f.pairs()}}
	default:
		return nil, false
	}
	if f.wrong || len(f.left) > 0 {
		return nil, false
	}
	return e, true
}
