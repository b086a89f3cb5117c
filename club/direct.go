package club

import (
	"strconv"

	"nock/api"
)

// verdictWord returns what is written for a verdict.
func verdictWord(v api.ClubVerdict) string {
	words := []string{api.ClubWrong: "wrong", api.ClubRight: "right", api.ClubProved: "proved"}
	return words[v]
}

// follow does what a line says that has a number, and returns what is written for it, with its line feed, unless it has a foul.
func (d *director) follow(text string, number int) (written string, f api.Foul) {
	e, err := readEntry(text, number)
	if _, f := foulOf(err); f != api.Fair {
		return "", f
	}
	switch x := e.(type) {
	case commandEntry:
		return "done\n", d.play(number, x.ClubCommand)
	case askEntry:
		return d.now().reply(x.ClubAsk)
	case replyEntry:
		verdict, f := d.now().verify(x)
		return verdictWord(verdict) + "\n", f
	}
	return "", api.BadForm
}

// direct returns what is written for the lines of a text.
func (d *director) direct(text string) string {
	out := ""
lines:
	for number, next := range linesOf(text) {
		written, f := d.follow(next, number)
		if f == api.Fair {
			out += written
			continue lines
		}
		out += "foul " + strconv.Itoa(int(f)) + "\n"
	}
	return out
}

// Direct returns what is written for the lines that a director is given, and the book in the end.
func Direct(b api.ClubBook, text string) (out string, now api.ClubBook, f api.Foul) {
	d, f := begin(b)
	if f != api.Fair {
		return "", api.ClubBook{}, f
	}
	if f := checkLength(text); f != api.Fair {
		return "", api.ClubBook{}, f
	}
	out = d.direct(text)
	return out, d.now().ClubBook, api.Fair
}
