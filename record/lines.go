package record

import (
	"slices"
	"strconv"
	"strings"

	"nock/api"
)

// maxDigits is how many digits a number of a text has at most.
const maxDigits = 9

// Words of lines.
const (
	kindWord  = "kind"
	eventWord = "event"
	claimWord = "claim"
	classWord = "class"
	tableWord = "table"
)

// lineKind is a kind of lines: its word, and what reads its fields.
type lineKind struct {
	word string
	read func(f *fields, b *api.RecordBook)
}

// lineKinds returns the kinds in the order in which a text has them. The last one is that of the last line alone.
func lineKinds() []lineKind {
	return []lineKind{
		{word: kindWord, read: readKind},
		{word: eventWord, read: readEvent},
		{word: claimWord, read: readClaim},
		{word: classWord, read: readClass},
		{word: tableWord, read: readTable},
	}
}

func readKind(f *fields, b *api.RecordBook) {
	k := api.RecordKind{Name: f.take()}
	for _, n := range []*int{&k.Star, &k.Judges, &k.Length, &k.Slack, &k.Within} {
		*n = f.number()
	}
	b.Kinds = append(b.Kinds, k)
}

func readEvent(f *fields, b *api.RecordBook) {
	e := api.RecordEvent{Name: f.take()}
	e.Day = f.number()
	e.Star = f.number()
	e.Judges = f.span()
	e.Length = f.span()
	b.Events = append(b.Events, e)
}

func readClaim(f *fields, b *api.RecordBook) {
	c := api.RecordClaim{Archer: f.take()}
	c.Event = f.number()
	c.Kind = f.number()
	c.Score = f.number()
	c.Papers = f.span()
	c.Gone = f.number()
	b.Claims = append(b.Claims, c)
}

func readClass(f *fields, b *api.RecordBook) {
	x := api.RecordClass{Name: f.take()}
	for _, n := range []*int{&x.Score, &x.Star, &x.Times, &x.Within} {
		*n = f.number()
	}
	b.Classes = append(b.Classes, x)
}

func readTable(f *fields, b *api.RecordBook) {
	b.Table = f.list()
}

// fields are the word of a line and what follows it. They are taken one after the other; wrong says that one of them lacked, or did not have its form.
type fields struct {
	left  []string
	wrong bool
}

func fieldsOf(line string) *fields {
	f := &fields{left: strings.Split(line, " ")}
	// Where a blank is too many, or the line is empty, a field is empty.
	f.need(!slices.Contains(f.left, ""))
	return f
}

// need says that the line is wrong if something is not so.
func (f *fields) need(so bool) {
	f.wrong = f.wrong || !so
}

func (f *fields) take() string {
	f.need(len(f.left) > 0)
	if f.wrong {
		return ""
	}
	next := f.left[0]
	f.left = f.left[1:]
	return next
}

// read reads a number that is written as it would be printed.
func (f *fields) read(text string) int {
	n, err := strconv.Atoi(text)
	f.need(err == nil && strconv.Itoa(n) == text && len(strings.TrimPrefix(text, "-")) <= maxDigits)
	return n
}

func (f *fields) number() int {
	return f.read(f.take())
}

// span reads a span that is written as it would be printed, though its Min may be above its Max.
func (f *fields) span() api.Span {
	left, right, dots := strings.Cut(f.take(), "..")
	x := api.Span{Min: f.read(left)}
	if !dots {
		x.Max = x.Min
		return x
	}
	x.Max = f.read(right)
	f.need(x.Min != x.Max)
	return x
}

func (f *fields) list() []int {
	text := f.take()
	if text == printList(nil) {
		return nil
	}
	var numbers []int
	for part := range strings.SplitSeq(text, "/") {
		numbers = append(numbers, f.read(part))
	}
	return numbers
}

// row returns a line of a word and fields.
func row(parts ...string) string {
	return strings.Join(parts, " ") + "\n"
}

// printNumbers returns numbers with something between two of them.
func printNumbers(between string, numbers ...int) string {
	var parts []string
	for _, n := range numbers {
		parts = append(parts, strconv.Itoa(n))
	}
	return strings.Join(parts, between)
}

func printSpan(x api.Span) string {
	if x.Min == x.Max {
		return strconv.Itoa(x.Min)
	}
	return strconv.Itoa(x.Min) + ".." + strconv.Itoa(x.Max)
}

func printList(numbers []int) string {
	if len(numbers) == 0 {
		return "-"
	}
	return printNumbers("/", numbers...)
}
