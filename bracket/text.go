package bracket

import (
	"errors"
	"strconv"
	"strings"

	"nock/api"
)

// wrongLine is the error that a line does not have its form, or stands where it may not; with the number 0 that there is no line.
type wrongLine struct{ number int }

func (w wrongLine) Error() string {
	return "wrong line " + strconv.Itoa(w.number)
}

// add adds what the line with a number says, unless it may not stand here.
func (b *book) add(e entry, number int) (added bool) {
	switch x := e.(type) {
	case bracketEntry:
		b.Sets = x.sets
		return number == 1
	case seedEntry:
		b.Seeds = append(b.Seeds, x.name)
		return number > 1 && len(b.Results) == 0
	case matchEntry:
		b.Results = append(b.Results, x.BracketResult)
		return number > 1
	}
	return false
}

// readBook reads a text line by line.
func readBook(text string) (api.BracketBook, error) {
	var b book
	number := 0
	for line := range strings.Lines(text) {
		number++
		e, found := readEntry(strings.TrimSuffix(line, "\n"))
		if !found || !b.add(e, number) {
			return api.BracketBook{}, wrongLine{number}
		}
	}
	if number == 0 {
		return api.BracketBook{}, wrongLine{number}
	}
	return b.BracketBook, nil
}

// Print returns a bracket as a text.
func Print(b api.BracketBook) (string, api.Foul) {
	if f := CheckBook(b); f != api.Fair {
		return "", f
	}
	text := bracketEntry{b.Sets}.print()
	for _, name := range b.Seeds {
		text += seedEntry{name}.print()
	}
	for _, r := range b.Results {
		text += matchEntry{r}.print()
	}
	return text, api.Fair
}

// Parse reads a bracket from a text; with BadForm it returns the number of the first wrong line.
func Parse(text string) (b api.BracketBook, line int, f api.Foul) {
	if len(text) > api.MaxText {
		return api.BracketBook{}, 0, api.BadCount
	}
	b, err := readBook(text)
	var wrong wrongLine
	if errors.As(err, &wrong) {
		return api.BracketBook{}, wrong.number, api.BadForm
	}
	if f := CheckBook(b); f != api.Fair {
		return api.BracketBook{}, 0, f
	}
	return b, 0, api.Fair
}
