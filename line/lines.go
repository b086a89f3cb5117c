package line

import (
	"slices"
	"strconv"
	"strings"

	"nock/api"
)

// maxDigits is how many digits a number of a text has at most.
const maxDigits = 9

// entry is what a line of a text says.
type entry interface {
	print() string
}

type planEntry struct {
	posts int
	fails []int
}

type personEntry struct{ api.LinePerson }

type stepEntry struct{ api.LineStep }

type watchEntry struct{ open, shut, count int }

type archerEntry struct {
	name  string
	extra int
}

type shotEntry struct{ api.LineShot }

func (e planEntry) print() string {
	return row("plan", strconv.Itoa(e.posts), printList(e.fails))
}

func (e personEntry) print() string {
	return row("person", e.Name, strconv.Itoa(e.Post))
}

func (e stepEntry) print() string {
	return row("step", signals()[e.Signal].word, needs()[e.Need].word)
}

func (e watchEntry) print() string {
	return row("watch", strconv.Itoa(e.open), strconv.Itoa(e.shut), strconv.Itoa(e.count))
}

func (e archerEntry) print() string {
	return row("archer", e.name, strconv.Itoa(e.extra))
}

func (e shotEntry) print() string {
	return row("shot", printSpan(e.At), strconv.Itoa(e.Number))
}

// row returns a line of a word and fields.
func row(parts ...string) string {
	return strings.Join(parts, " ") + "\n"
}

func printList(numbers []int) string {
	if len(numbers) == 0 {
		return "-"
	}
	var parts []string
	for _, n := range numbers {
		parts = append(parts, strconv.Itoa(n))
	}
	return strings.Join(parts, "/")
}

func printSpan(x api.Span) string {
	if x.Min == x.Max {
		return strconv.Itoa(x.Min)
	}
	return strconv.Itoa(x.Min) + ".." + strconv.Itoa(x.Max)
}

// wrongLine is the panic by which the reader is left if a line does not have its form, or stands where it may not. It is the number of the line, or 0 if a line lacks.
type wrongLine int

// fields are what is left to be read of a line.
type fields struct {
	line int
	left []string
}

// need leaves the reader if something is not so.
func (f *fields) need(so bool) {
	if !so {
		panic(wrongLine(f.line))
	}
}

func (f *fields) next() string {
	f.need(len(f.left) > 0)
	first := f.left[0]
	f.left = f.left[1:]
	return first
}

func (f *fields) number() int {
	return f.readNumber(f.next())
}

// readNumber reads a number that is written as it would be printed.
func (f *fields) readNumber(text string) int {
	f.need(len(strings.TrimPrefix(text, "-")) <= maxDigits)
	n, err := strconv.Atoi(text)
	f.need(err == nil && strconv.Itoa(n) == text)
	return n
}

func (f *fields) list() []int {
	text := f.next()
	if text == printList(nil) {
		return nil
	}
	var numbers []int
	for part := range strings.SplitSeq(text, "/") {
		numbers = append(numbers, f.readNumber(part))
	}
	return numbers
}

// span reads a span that is written as it would be printed, though its Min may be above its Max.
func (f *fields) span() api.Span {
	left, right, dots := strings.Cut(f.next(), "..")
	if !dots {
		n := f.readNumber(left)
		return api.Span{Min: n, Max: n}
	}
	x := api.Span{Min: f.readNumber(left), Max: f.readNumber(right)}
	f.need(x.Min != x.Max)
	return x
}

func (f *fields) signal() api.LineSignal {
	word := f.next()
	i := slices.IndexFunc(signals(), func(s signal) bool { return s.word == word })
	f.need(i >= 0)
	return api.LineSignal(i)
}

func (f *fields) needed() api.LineNeed {
	word := f.next()
	i := slices.IndexFunc(needs(), func(n need) bool { return n.word == word })
	f.need(i >= 0)
	return api.LineNeed(i)
}

// entry reads the word of a line, and its fields.
func (f *fields) entry() entry {
	switch f.next() {
	case "plan":
		return planEntry{f.number(), f.list()}
	case "person":
		return personEntry{api.LinePerson{Name: f.next(), Post: f.number()}}
	case "step":
		return stepEntry{api.LineStep{Signal: f.signal(), Need: f.needed()}}
	case "watch":
		return watchEntry{f.number(), f.number(), f.number()}
	case "archer":
		return archerEntry{f.next(), f.number()}
	case "shot":
		return shotEntry{api.LineShot{At: f.span(), Number: f.number()}}
	}
	panic(wrongLine(f.line))
}

// readEntry reads a line, without its line feed, that has a number.
func readEntry(line string, number int) entry {
	f := &fields{line: number, left: strings.Split(line, " ")}
	f.need(!slices.Contains(f.left, ""))
	e := f.entry()
	f.need(len(f.left) == 0)
	return e
}
