package face

import (
	"slices"
	"strconv"
	"strings"

	"nock/api"
)

// maxDigits is how many digits a number of a text has at most.
const maxDigits = 9

// lineKind is a kind of lines.
type lineKind int

// Kinds of lines, in the order in which a text has them.
const (
	targetLine lineKind = iota
	ringLine
	spotLine
	arrowLine
)

// kindOfLine returns the kind of the lines that begin with a word.
func kindOfLine(word string) (kind lineKind, found bool) {
	switch word {
	case "target":
		return targetLine, true
	case "ring":
		return ringLine, true
	case "spot":
		return spotLine, true
	}
	_, found = kindOf(word)
	return arrowLine, found
}

// eachWord returns the word that says whether each spot is for one arrow.
func eachWord(each bool) string {
	if each {
		return "each"
	}
	return "any"
}

// printLine returns a line of a word, some numbers and more fields.
func printLine(word string, numbers []int, more ...string) string {
	line := word
	for _, n := range numbers {
		line += " " + strconv.Itoa(n)
	}
	for _, field := range more {
		line += " " + field
	}
	return line + "\n"
}

func printSpan(x api.Span) string {
	if x.Min == x.Max {
		return strconv.Itoa(x.Min)
	}
	return strconv.Itoa(x.Min) + ".." + strconv.Itoa(x.Max)
}

// wrongLine is the panic by which the reader is left if a line does not have its form, or stands where it may not. It is the number of the line, or 0 if there is no line.
type wrongLine int

// fields are what is left to be read of a line.
type fields struct {
	line int
	left []string
}

// need leaves the reader if something is not so.
func (f *fields) need(so bool) {
	if !so {
		panic(wrongLine(f.line))
	}
}

func (f *fields) next() string {
	f.need(len(f.left) > 0)
	first := f.left[0]
	f.left = f.left[1:]
	return first
}

func (f *fields) number() int {
	return f.readNumber(f.next())
}

// readNumber reads a number that is written as it would be printed.
func (f *fields) readNumber(text string) int {
	f.need(len(strings.TrimPrefix(text, "-")) <= maxDigits)
	n, err := strconv.Atoi(text)
	f.need(err == nil && strconv.Itoa(n) == text)
	return n
}

// span reads a span that is written as it would be printed, though its Min may be above its Max.
func (f *fields) span() api.Span {
	left, right, dots := strings.Cut(f.next(), "..")
	if !dots {
		n := f.readNumber(left)
		return api.Span{Min: n, Max: n}
	}
	x := api.Span{Min: f.readNumber(left), Max: f.readNumber(right)}
	f.need(x.Min != x.Max)
	return x
}

func (f *fields) box() api.FaceBox {
	return api.FaceBox{X: f.span(), Y: f.span()}
}

// each reads whether each spot is for one arrow.
func (f *fields) each() bool {
	word := f.next()
	f.need(word == eachWord(true) || word == eachWord(false))
	return word == eachWord(true)
}

// arrow reads an arrow whose line begins with a word.
func (f *fields) arrow(word string) api.FaceArrow {
	k, found := kindOf(word)
	f.need(found)
	shaft := f.number()
	x := kinds()[k].read(f)
	x.Kind, x.Shaft = k, shaft
	return x
}

// reader keeps what was read of a text, and the kind of the last line.
type reader struct {
	end  api.FaceEnd
	last lineKind
}

// add reads one line, without its line feed.
func (r *reader) add(line string, number int) {
	f := &fields{line: number, left: strings.Split(line, " ")}
	f.need(!slices.Contains(f.left, ""))
	word := f.next()
	kind, found := kindOfLine(word)
	f.need(found && kind >= r.last && (kind == targetLine) == (number == 1))
	r.last = kind
	t := &r.end.Target
	switch kind {
	case targetLine:
		t.Inner = f.number()
		t.Each = f.each()
	case ringLine:
		ring := api.FaceRing{Radius: f.number(), Value: f.number()}
		t.Rings = append(t.Rings, ring)
	case spotLine:
		spot := api.FacePoint{X: f.number(), Y: f.number()}
		t.Spots = append(t.Spots, spot)
	case arrowLine:
		x := f.arrow(word)
		r.end.Arrows = append(r.end.Arrows, x)
	}
	f.need(len(f.left) == 0)
}

// readEnd reads all lines of a text, and returns the number of the first wrong one with BadForm.
func readEnd(text string) (e api.FaceEnd, line int, f api.Foul) {
	defer func() {
		if wrong, is := recover().(wrongLine); is {
			e, line, f = api.FaceEnd{}, int(wrong), api.BadForm
		}
	}()
	if text == "" {
		panic(wrongLine(0))
	}
	var r reader
	for i, next := range strings.Split(strings.TrimSuffix(text, "\n"), "\n") {
		r.add(next, i+1)
	}
	return r.end, 0, api.Fair
}

// Print returns an end as a text.
func Print(e api.FaceEnd) (string, api.Foul) {
	if f := CheckEnd(e); f != api.Fair {
		return "", f
	}
	text := printLine("target", []int{e.Target.Inner}, eachWord(e.Target.Each))
	for _, ring := range e.Target.Rings {
		text += printLine("ring", []int{ring.Radius, ring.Value})
	}
	for _, spot := range e.Target.Spots {
		text += printLine("spot", []int{spot.X, spot.Y})
	}
	for _, x := range e.Arrows {
		k := kinds()[x.Kind]
		text += printLine(k.word, []int{x.Shaft}, k.print(x)...)
	}
	return text, api.Fair
}

// Parse reads an end from a text; with BadForm it returns the number of the first wrong line.
func Parse(text string) (e api.FaceEnd, line int, f api.Foul) {
	if len(text) > api.MaxText {
		return api.FaceEnd{}, 0, api.BadCount
	}
	if e, line, f = readEnd(text); f != api.Fair {
		return api.FaceEnd{}, line, f
	}
	if f := CheckEnd(e); f != api.Fair {
		return api.FaceEnd{}, 0, f
	}
	return e, 0, api.Fair
}
