package arrow

import (
	"errors"
	"strconv"
	"strings"

	"nock/api"
)

// wrongLine is the error that a line does not have its form, or stands where it may not. Its number is 0 if there is no line.
type wrongLine struct{ number int }

func (w wrongLine) Error() string {
	return "wrong line " + strconv.Itoa(w.number)
}

// splitLines returns the lines of a text, without their line feeds.
func splitLines(text string) []string {
	if text == "" {
		return nil
	}
	return strings.Split(strings.TrimSuffix(text, "\n"), "\n")
}

// readEntries reads a text line by line. It gives each entry to add, which says whether the entry may stand there.
func readEntries(text string, add func(e entry, first bool) bool) error {
	lines := splitLines(text)
	if len(lines) == 0 {
		return wrongLine{0}
	}
	for i, line := range lines {
		e, found := readEntry(line)
		if !found || !add(e, i == 0) {
			return wrongLine{i + 1}
		}
	}
	return nil
}

func readStock(text string) (api.ArrowStock, error) {
	var s api.ArrowStock
	err := readEntries(text, func(e entry, first bool) bool {
		switch x := e.(type) {
		case ruleEntry:
			s.Rule = x.ArrowRule
			return first
		case shaftEntry:
			s.Shafts = append(s.Shafts, x.ArrowShaft)
			return !first
		}
		return false
	})
	return s, err
}

func readCard(text string) (api.SightCard, error) {
	var c api.SightCard
	err := readEntries(text, func(e entry, first bool) bool {
		switch x := e.(type) {
		case sightEntry:
			c.Rule = x.SightRule
			return first
		case shotEntry:
			c.Shots = append(c.Shots, x.SightShot)
			return !first
		}
		return false
	})
	return c, err
}

// parse reads a text, and checks what it says.
func parse[T any](text string, read func(text string) (T, error), check func(x T) api.Foul) (x T, line int, f api.Foul) {
	var none T
	if len(text) > api.MaxText {
		return none, 0, api.BadCount
	}
	x, err := read(text)
	var wrong wrongLine
	if errors.As(err, &wrong) {
		return none, wrong.number, api.BadForm
	}
	if f := check(x); f != api.Fair {
		return none, 0, f
	}
	return x, 0, api.Fair
}

// PrintStock returns a stock as a text.
func PrintStock(s api.ArrowStock) (string, api.Foul) {
	if f := CheckStock(s); f != api.Fair {
		return "", f
	}
	text := ruleEntry{s.Rule}.print()
	for _, shaft := range s.Shafts {
		text += shaftEntry{shaft}.print()
	}
	return text, api.Fair
}

// ParseStock reads a stock from a text; with BadForm it returns the number of the first wrong line.
func ParseStock(text string) (s api.ArrowStock, line int, f api.Foul) {
	return parse(text, readStock, CheckStock)
}

// PrintCard returns a sight card as a text.
func PrintCard(c api.SightCard) (string, api.Foul) {
	if f := CheckCard(c); f != api.Fair {
		return "", f
	}
	text := sightEntry{c.Rule}.print()
	for _, shot := range c.Shots {
		text += shotEntry{shot}.print()
	}
	return text, api.Fair
}

// ParseCard reads a sight card from a text; with BadForm it returns the number of the first wrong line.
func ParseCard(text string) (c api.SightCard, line int, f api.Foul) {
	return parse(text, readCard, CheckCard)
}
