package card

import (
	"slices"
	"strconv"
	"strings"

	"nock/api"
)

// maxDigits is how many digits a number of a text has at most.
const maxDigits = 9

// Words of lines.
const (
	cardWord  = "card"
	endWord   = "end"
	arrowWord = "arrow"
	toldWord  = "told"
)

// lineKind is a kind of lines: its word, the words of the lines that it may follow (an empty one if it may be the first line), and what reads its fields.
type lineKind struct {
	word  string
	after []string
	read  func(f *fields, c *api.CardSheet)
}

func lineKinds() []lineKind {
	return []lineKind{
		{word: cardWord, after: []string{""}, read: readRule},
		{word: endWord, after: []string{cardWord, endWord, arrowWord, toldWord}, read: readEnd},
		{word: arrowWord, after: []string{endWord, arrowWord}, read: readArrow},
		{word: toldWord, after: []string{endWord, arrowWord, toldWord}, read: readTold},
	}
}

func readRule(f *fields, c *api.CardSheet) {
	c.Rule.Arrows = f.number()
	c.Rule.Slips = f.number()
}

func readEnd(f *fields, c *api.CardSheet) {
	c.Ends = append(c.Ends, api.CardEnd{})
}

func readArrow(f *fields, c *api.CardSheet) {
	e, some := lastEnd(c), f.list()
	e.Marks = append(e.Marks, some)
}

func readTold(f *fields, c *api.CardSheet) {
	e, some := lastEnd(c), f.list()
	e.Told = append(e.Told, some)
}

func lastEnd(c *api.CardSheet) *api.CardEnd {
	return &c.Ends[len(c.Ends)-1]
}

// wrongLine is the panic by which the reader is left if a line does not have its form, or stands where it may not. It is the number of the line, or 0 if there is no line.
type wrongLine int

// fields are what is left to be read of a line.
type fields struct {
	line int
	left []string
}

// need leaves the reader if something is not so.
func (f *fields) need(so bool) {
	if !so {
		panic(wrongLine(f.line))
	}
}

func (f *fields) next() string {
	f.need(len(f.left) > 0)
	first := f.left[0]
	f.left = f.left[1:]
	return first
}

func (f *fields) number() int {
	return f.readNumber(f.next())
}

// readNumber reads a number that is written as it would be printed.
func (f *fields) readNumber(text string) int {
	f.need(len(strings.TrimPrefix(text, "-")) <= maxDigits)
	n, err := strconv.Atoi(text)
	f.need(err == nil && strconv.Itoa(n) == text)
	return n
}

func (f *fields) list() []int {
	text := f.next()
	if text == printList(nil) {
		return nil
	}
	var some []int
	for _, part := range strings.Split(text, "/") {
		some = append(some, f.readNumber(part))
	}
	return some
}

// kind reads the word of a line that may follow one with another word.
func (f *fields) kind(last string) lineKind {
	word := f.next()
	kinds := lineKinds()
	i := slices.IndexFunc(kinds, func(k lineKind) bool { return k.word == word })
	f.need(i >= 0 && slices.Contains(kinds[i].after, last))
	return kinds[i]
}

// readCard reads all lines of a text, and returns the number of the first wrong one with BadForm.
func readCard(text string) (c api.CardSheet, line int, f api.Foul) {
	defer func() {
		if wrong, is := recover().(wrongLine); is {
			c, line, f = api.CardSheet{}, int(wrong), api.BadForm
		}
	}()
	if text == "" {
		panic(wrongLine(0))
	}
	last := ""
	for i, next := range strings.Split(strings.TrimSuffix(text, "\n"), "\n") {
		// Where a blank is too many, a part is empty: this is no word, and no field has this form.
		row := &fields{line: i + 1, left: strings.Split(next, " ")}
		kind := row.kind(last)
		kind.read(row, &c)
		row.need(len(row.left) == 0)
		last = kind.word
	}
	return c, 0, api.Fair
}

func printList(some []int) string {
	if len(some) == 0 {
		return "-"
	}
	var parts []string
	for _, n := range some {
		parts = append(parts, strconv.Itoa(n))
	}
	return strings.Join(parts, "/")
}

// printLine returns a line of a word and fields.
func printLine(word string, more ...string) string {
	return strings.Join(append([]string{word}, more...), " ") + "\n"
}

// Print returns a card as a text.
func Print(c api.CardSheet) (string, api.Foul) {
	if f := CheckCard(c); f != api.Fair {
		return "", f
	}
	text := printLine(cardWord, strconv.Itoa(c.Rule.Arrows), strconv.Itoa(c.Rule.Slips))
	for _, e := range c.Ends {
		text += printLine(endWord)
		for _, some := range e.Marks {
			text += printLine(arrowWord, printList(some))
		}
		for _, some := range e.Told {
			text += printLine(toldWord, printList(some))
		}
	}
	return text, api.Fair
}

// Parse reads a card from a text; with BadForm it returns the number of the first wrong line.
func Parse(text string) (c api.CardSheet, line int, f api.Foul) {
	if len(text) > api.MaxText {
		return api.CardSheet{}, 0, api.BadCount
	}
	if c, line, f = readCard(text); f != api.Fair {
		return api.CardSheet{}, line, f
	}
	if f := CheckCard(c); f != api.Fair {
		return api.CardSheet{}, 0, f
	}
	return c, 0, api.Fair
}
