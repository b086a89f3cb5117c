package round

import (
	"errors"
	"strconv"
	"strings"

	"nock/api"
)

// wrongLine is the error that a line does not have its form, or stands where it may not.
type wrongLine struct{ number int }

func (w wrongLine) Error() string {
	return "wrong line " + strconv.Itoa(w.number)
}

// add adds what a line says, unless the line may not stand here.
func (s *sheet) add(e entry) (added bool) {
	switch x := e.(type) {
	case legEntry:
		s.Legs = append(s.Legs, x.RoundLeg)
		return len(s.Archers) == 0
	case archerEntry:
		s.Archers = append(s.Archers, x.RoundArcher)
		return true
	case offEntry:
		if len(s.Archers) == 0 {
			return false
		}
		last := &s.Archers[len(s.Archers)-1]
		last.Offs = append(last.Offs, x.RoundOff)
		return true
	}
	return false
}

// readRound reads a text line by line. A text without lines is a round without legs.
func readRound(text string) (api.Round, error) {
	var s sheet
	number := 0
	for line := range strings.Lines(text) {
		number++
		e, found := readEntry(strings.TrimSuffix(line, "\n"))
		if !found || !s.add(e) {
			return api.Round{}, wrongLine{number}
		}
	}
	return s.Round, nil
}

// Print returns a round as a text.
func Print(r api.Round) (string, api.Foul) {
	if f := CheckRound(r); f != api.Fair {
		return "", f
	}
	text := ""
	for _, leg := range r.Legs {
		text += legEntry{leg}.print()
	}
	for _, archer := range r.Archers {
		text += archerEntry{archer}.print()
		for _, off := range archer.Offs {
			text += offEntry{off}.print()
		}
	}
	return text, api.Fair
}

// Parse reads a round from a text; with BadForm it returns the number of the first wrong line.
func Parse(text string) (r api.Round, line int, f api.Foul) {
	if len(text) > api.MaxText {
		return api.Round{}, 0, api.BadCount
	}
	r, err := readRound(text)
	var wrong wrongLine
	if errors.As(err, &wrong) {
		return api.Round{}, wrong.number, api.BadForm
	}
	if f := CheckRound(r); f != api.Fair {
		return api.Round{}, 0, f
	}
	return r, 0, api.Fair
}
