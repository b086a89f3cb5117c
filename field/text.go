package field

import (
	"strconv"
	"strings"

	"nock/api"
)

// readCourse reads all lines of a text, and returns the number of the first wrong one with BadForm.
func readCourse(text string) (c api.FieldCourse, line int, f api.Foul) {
	defer func() {
		if wrong, is := recover().(wrongLine); is {
			c, line, f = api.FieldCourse{}, int(wrong), api.BadForm
		}
	}()
	if text == "" {
		panic(wrongLine(0))
	}
	kinds, last, number := lineKinds(), 0, 0
	for next := range strings.Lines(text) {
		number++
		some := fieldsOf(next, number)
		last = some.kind(kinds, last)
		kinds[last].read(some, &c)
		some.need(len(some.left) == 0)
	}
	return c, 0, api.Fair
}

// printLine returns a line of a word and fields.
func printLine(parts ...string) string {
	return strings.Join(parts, " ") + "\n"
}

func printSpan(x api.Span) string {
	if x.Min == x.Max {
		return strconv.Itoa(x.Min)
	}
	return strconv.Itoa(x.Min) + ".." + strconv.Itoa(x.Max)
}

func printList(numbers []int) string {
	if len(numbers) == 0 {
		return "-"
	}
	var parts []string
	for _, n := range numbers {
		parts = append(parts, strconv.Itoa(n))
	}
	return strings.Join(parts, "/")
}

func printPeg(p api.FieldPeg) string {
	return printLine(pegWord, p.Name, printSpan(p.Slant), printSpan(p.Rise), strconv.Itoa(p.Size), strconv.Itoa(p.At), printSpan(p.Shoot), printSpan(p.Walk), printList(p.Lane))
}

// Print returns a course as a text.
func Print(c api.FieldCourse) (string, api.Foul) {
	if f := CheckCourse(c); f != api.Fair {
		return "", f
	}
	text := printLine(courseWord, strconv.Itoa(c.Limit), strconv.Itoa(c.Points))
	for _, x := range c.Sizes {
		text += printLine(sizeWord, printSpan(x))
	}
	for _, p := range c.Paths {
		text += printLine(pathWord, strconv.Itoa(p.One), strconv.Itoa(p.Two), strconv.Itoa(p.Long))
	}
	for _, p := range c.Pegs {
		text += printPeg(p)
	}
	for _, g := range c.Groups {
		text += printLine(groupWord, g.Name, strconv.Itoa(g.Start), strconv.Itoa(g.Delay))
	}
	return text, api.Fair
}

// Parse reads a course from a text; with BadForm it returns the number of the first wrong line.
func Parse(text string) (c api.FieldCourse, line int, f api.Foul) {
	if len(text) > api.MaxText {
		return api.FieldCourse{}, 0, api.BadCount
	}
	if c, line, f = readCourse(text); f != api.Fair {
		return api.FieldCourse{}, line, f
	}
	if f := CheckCourse(c); f != api.Fair {
		return api.FieldCourse{}, 0, f
	}
	return c, 0, api.Fair
}
