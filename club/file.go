package club

import (
	"slices"
	"strings"

	"nock/api"
)

// sumFrom returns the sum of a text from a number on.
func sumFrom(n int, text string) int {
	for _, c := range []byte(text) {
		n = (257*n + int(c) + 7) % (api.MaxClubSum + 1)
	}
	return n
}

// Sum returns the sum of a text from a number on.
func Sum(from int, text string) (int, api.Foul) {
	if !within(from, 0, api.MaxClubSum) {
		return 0, api.OffLimits
	}
	if len(text) > api.MaxText {
		return 0, api.BadCount
	}
	return sumFrom(from, text), api.Fair
}

// print returns the lines of each part.
func (b checkedBook) print() []string {
	var printed []chan string
	for _, p := range parts() {
		text := make(chan string)
		printed = append(printed, text)
		go func() { text <- p.print(b) }()
	}
	var all []string
	for _, text := range printed {
		all = append(all, <-text)
	}
	return all
}

// Write returns the file of a book.
func Write(b api.ClubBook) (string, api.Foul) {
	checked, f := look(b)
	if f != api.Fair {
		return "", f
	}
	printed, text, sum := checked.print(), "", 0
	for i, p := range parts() {
		sum = sumFrom(sum, printed[i])
		head := partEntry{p.word, strings.Count(printed[i], "\n"), sum}
		text += printEntry(partWord, head) + printed[i]
	}
	if len(text) > api.MaxText {
		return "", api.BadCount
	}
	return text, api.Fair
}

// reader keeps what was read of a file, the lines that are left, the number of the last one that was read, and the sum of those that belong to parts.
type reader struct {
	draft
	left   []string
	number int
	sum    int
}

// head reads the line with which a part begins.
func (r *reader) head(p part) (partEntry, error) {
	r.number++
	noForm := wrongLine{r.number, api.BadForm}
	if len(r.left) == 0 {
		return partEntry{}, noForm
	}
	e, err := readEntry(strings.TrimSuffix(r.left[0], "\n"), r.number)
	if err != nil {
		return partEntry{}, err
	}
	head, is := e.(partEntry)
	if !is || head.word != p.word {
		return partEntry{}, noForm
	}
	r.left = r.left[1:]
	return head, nil
}

// readPart reads the next part.
func (r *reader) readPart(p part) error {
	head, err := r.head(p)
	if err != nil {
		return err
	}
	own := r.number
	if head.lines > len(r.left) {
		return wrongLine{own, api.BadCount}
	}
	text := strings.Join(r.left[:head.lines], "")
	r.left = r.left[head.lines:]
	r.number += head.lines
	r.sum = sumFrom(r.sum, text)
	if head.sum != r.sum {
		return wrongLine{own, api.Against}
	}
	if number, f := p.read(&r.draft, text); f != api.Fair {
		return wrongLine{own + number, f}
	}
	return nil
}

// readFile reads a file part by part.
func readFile(text string) (api.ClubBook, error) {
	if len(text) > api.MaxText {
		return api.ClubBook{}, wrongLine{0, api.BadCount}
	}
	if !strings.HasSuffix(text, "\n") {
		return api.ClubBook{}, wrongLine{0, api.BadForm}
	}
	r := reader{left: slices.Collect(strings.Lines(text))}
	for _, p := range parts() {
		if err := r.readPart(p); err != nil {
			return api.ClubBook{}, err
		}
	}
	if len(r.left) > 0 {
		return api.ClubBook{}, wrongLine{r.number + 1, api.BadForm}
	}
	return r.ClubBook, nil
}

// Read reads the file of a book; with a foul of a line it returns its number.
func Read(text string) (b api.ClubBook, line int, f api.Foul) {
	b, err := readFile(text)
	line, f = foulOf(err)
	return b, line, f
}
