package field

import (
	"slices"
	"strings"

	"nock/api"
)

// maxDigits is how many digits a number of a text has at most.
const maxDigits = 9

// Words of lines.
const (
	courseWord = "course"
	sizeWord   = "size"
	pathWord   = "path"
	pegWord    = "peg"
	groupWord  = "group"
)

// lineKind is a kind of lines: its word, and what reads its fields.
type lineKind struct {
	word string
	read func(f *fields, c *api.FieldCourse)
}

// lineKinds returns the kinds in the order in which a text has them. The first one is that of the first line alone.
func lineKinds() []lineKind {
	return []lineKind{
		{word: courseWord, read: readHead},
		{word: sizeWord, read: readSize},
		{word: pathWord, read: readPath},
		{word: pegWord, read: readPeg},
		{word: groupWord, read: readGroup},
	}
}

func readHead(f *fields, c *api.FieldCourse) {
	c.Limit = f.number()
	c.Points = f.number()
}

func readSize(f *fields, c *api.FieldCourse) {
	c.Sizes = append(c.Sizes, f.span())
}

func readPath(f *fields, c *api.FieldCourse) {
	var p api.FieldPath
	p.One = f.number()
	p.Two = f.number()
	p.Long = f.number()
	c.Paths = append(c.Paths, p)
}

func readPeg(f *fields, c *api.FieldCourse) {
	var p api.FieldPeg
	p.Name = f.next()
	p.Slant = f.span()
	p.Rise = f.span()
	p.Size = f.number()
	p.At = f.number()
	p.Shoot = f.span()
	p.Walk = f.span()
	p.Lane = f.list()
	c.Pegs = append(c.Pegs, p)
}

func readGroup(f *fields, c *api.FieldCourse) {
	var g api.FieldGroup
	g.Name = f.next()
	g.Start = f.number()
	g.Delay = f.number()
	c.Groups = append(c.Groups, g)
}

// wrongLine is the panic by which the reader is left if a line does not have its form, or stands where it may not. It is the number of the line, or 0 if there is no line.
type wrongLine int

// fields are what is left to be read of a line that has a number.
type fields struct {
	line int
	left []string
}

// fieldsOf returns the fields of a line.
func fieldsOf(text string, line int) *fields {
	f := &fields{line: line, left: strings.Split(strings.TrimSuffix(text, "\n"), " ")}
	// Where a blank is too many, or the line is empty, a field is empty.
	f.need(!slices.Contains(f.left, ""))
	return f
}

// need leaves the reader if something is not so.
func (f *fields) need(so bool) {
	if !so {
		panic(wrongLine(f.line))
	}
}

func (f *fields) next() string {
	f.need(len(f.left) > 0)
	first := f.left[0]
	f.left = f.left[1:]
	return first
}

// kind reads the word of a line that stands after one of another kind, and returns the index of its kind.
func (f *fields) kind(kinds []lineKind, last int) int {
	word := f.next()
	i := slices.IndexFunc(kinds, func(k lineKind) bool { return k.word == word })
	f.need(i >= last && (i == 0) == (f.line == 1))
	return i
}

func (f *fields) number() int {
	return f.readNumber(f.next())
}

// readNumber reads a number that is written as it would be printed.
func (f *fields) readNumber(text string) int {
	digits, below := strings.CutPrefix(text, "-")
	f.need(within(len(digits), 1, maxDigits))
	f.need(digits[0] != '0' || text == "0")
	n := 0
	for _, digit := range digits {
		f.need('0' <= digit && digit <= '9')
		n = 10*n + int(digit-'0')
	}
	if below {
		return -n
	}
	return n
}

// span reads a span that is written as it would be printed, though its Min may be above its Max.
func (f *fields) span() api.Span {
	left, right, dots := strings.Cut(f.next(), "..")
	least := f.readNumber(left)
	if !dots {
		return api.Span{Min: least, Max: least}
	}
	most := f.readNumber(right)
	f.need(least != most)
	return api.Span{Min: least, Max: most}
}

func (f *fields) list() []int {
	text := f.next()
	if text == printList(nil) {
		return nil
	}
	var numbers []int
	for part := range strings.SplitSeq(text, "/") {
		numbers = append(numbers, f.readNumber(part))
	}
	return numbers
}
