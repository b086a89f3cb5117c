package record

import (
	"errors"
	"slices"
	"strconv"
	"strings"

	"nock/api"
)

// wrongLine is the error that a line does not have its form, or stands where it may not; with the number 0 that a line lacks.
type wrongLine struct{ number int }

func (w wrongLine) Error() string {
	return "wrong line " + strconv.Itoa(w.number)
}

// reader keeps what was read of a text, the number of the last line, and the index of the kind that it has.
type reader struct {
	kinds  []lineKind
	book   api.RecordBook
	number int
	last   int
}

// isWhole says whether the last line of a text was read.
func (r *reader) isWhole() bool {
	return r.last == len(r.kinds)-1
}

// readLine reads the next line, without its line feed.
func (r *reader) readLine(line string) (err error) {
	r.number++
	f := fieldsOf(line)
	// However the line is left, what is wrong in it or left of it is found here.
	defer func() {
		if f.wrong || len(f.left) > 0 {
			err = wrongLine{r.number}
		}
	}()
	word := f.take()
	i := slices.IndexFunc(r.kinds, func(k lineKind) bool { return k.word == word })
	f.need(i >= r.last && !r.isWhole())
	if f.wrong {
		return nil
	}
	r.last = i
	r.kinds[i].read(f, &r.book)
	return nil
}

// readBook reads a text line by line.
func readBook(text string) (api.RecordBook, error) {
	r := reader{kinds: lineKinds()}
	for line := range strings.Lines(text) {
		if err := r.readLine(strings.TrimSuffix(line, "\n")); err != nil {
			return api.RecordBook{}, err
		}
	}
	if !r.isWhole() {
		return api.RecordBook{}, wrongLine{0}
	}
	return r.book, nil
}

// Print returns a book as a text.
func Print(b api.RecordBook) (string, api.Foul) {
	if f := CheckBook(b); f != api.Fair {
		return "", f
	}
	text := ""
	for _, k := range b.Kinds {
		text += row(kindWord, k.Name, printNumbers(" ", k.Star, k.Judges, k.Length, k.Slack, k.Within))
	}
	for _, e := range b.Events {
		text += row(eventWord, e.Name, printNumbers(" ", e.Day, e.Star), printSpan(e.Judges), printSpan(e.Length))
	}
	for _, c := range b.Claims {
		text += row(claimWord, c.Archer, printNumbers(" ", c.Event, c.Kind, c.Score), printSpan(c.Papers), strconv.Itoa(c.Gone))
	}
	for _, x := range b.Classes {
		text += row(classWord, x.Name, printNumbers(" ", x.Score, x.Star, x.Times, x.Within))
	}
	return text + row(tableWord, printList(b.Table)), api.Fair
}

// Parse reads a book from a text; with BadForm it returns the number of the first wrong line.
func Parse(text string) (b api.RecordBook, line int, f api.Foul) {
	if len(text) > api.MaxText {
		return api.RecordBook{}, 0, api.BadCount
	}
	b, err := readBook(text)
	var wrong wrongLine
	if errors.As(err, &wrong) {
		return api.RecordBook{}, wrong.number, api.BadForm
	}
	if f := CheckBook(b); f != api.Fair {
		return api.RecordBook{}, 0, f
	}
	return b, 0, api.Fair
}
