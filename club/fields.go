package club

import (
	"slices"
	"strconv"
	"strings"

	"nock/api"
)

// maxDigits is how many digits a number of a text has at most.
const maxDigits = 9

// wrongField is the panic by which the reader of a line is left if a field lacks, is too many, or does not have its form.
type wrongField struct{}

// fields are what is left to be read of a line.
type fields struct{ left []string }

// need leaves the reader if something is not so.
func (f *fields) need(so bool) {
	if !so {
		panic(wrongField{})
	}
}

func (f *fields) next() string {
	f.need(len(f.left) > 0)
	first := f.left[0]
	f.left = f.left[1:]
	return first
}

// readNumber reads a number that is written as it would be printed.
func (f *fields) readNumber(text string) int {
	f.need(len(strings.TrimPrefix(text, "-")) <= maxDigits)
	n, err := strconv.Atoi(text)
	f.need(err == nil && strconv.Itoa(n) == text)
	return n
}

func (f *fields) number() int {
	return f.readNumber(f.next())
}

// span reads a span that is written as it would be printed, though its Min may be above its Max.
func (f *fields) span() api.Span {
	left, right, dots := strings.Cut(f.next(), "..")
	least := f.readNumber(left)
	if !dots {
		return api.Span{Min: least, Max: least}
	}
	most := f.readNumber(right)
	f.need(least != most)
	return api.Span{Min: least, Max: most}
}

func (f *fields) list() []int {
	text := f.next()
	if text == printList(nil) {
		return nil
	}
	var numbers []int
	for part := range strings.SplitSeq(text, "/") {
		numbers = append(numbers, f.readNumber(part))
	}
	return numbers
}

// word reads one of some words, and returns its index.
func (f *fields) word(words ...string) int {
	i := slices.Index(words, f.next())
	f.need(i >= 0)
	return i
}

func printSpan(x api.Span) string {
	if x.Min == x.Max {
		return strconv.Itoa(x.Min)
	}
	return strconv.Itoa(x.Min) + ".." + strconv.Itoa(x.Max)
}

func printList(numbers []int) string {
	if len(numbers) == 0 {
		return "-"
	}
	return strings.Join(printNumbers(numbers...), "/")
}

// printNumbers returns fields, each of which is a number.
func printNumbers(numbers ...int) []string {
	var parts []string
	for _, n := range numbers {
		parts = append(parts, strconv.Itoa(n))
	}
	return parts
}
