package club

import (
	"slices"
	"strings"

	"nock/api"
)

// reply returns the reply to a question.
func (b checkedBook) reply(q api.ClubAsk) (string, api.Foul) {
	x, f := b.ask(q)
	if f != api.Fair {
		return "", f
	}
	e := replyEntry{question: q, answer: x}
	e.sum = e.seal()
	return printEntry(replyWord, e), api.Fair
}

// Reply returns the answer to a question as a line.
func Reply(b api.ClubBook, q api.ClubAsk) (string, api.Foul) {
	checked, f := look(b)
	if f != api.Fair {
		return "", f
	}
	return checked.reply(q)
}

// verify looks at a reply again.
func (b checkedBook) verify(e replyEntry) (api.ClubVerdict, api.Foul) {
	if e.sum != e.seal() {
		return api.ClubWrong, api.Against
	}
	x, f := b.ask(e.question)
	switch {
	case f != api.Fair:
		return api.ClubWrong, f
	case b.proves(e.question, e.answer):
		return api.ClubProved, api.Fair
	case e.yes == x.yes && slices.Equal(e.list, x.list):
		return api.ClubRight, api.Fair
	}
	return api.ClubWrong, api.Fair
}

// Verify returns what a reply is worth.
func Verify(b api.ClubBook, reply string) (api.ClubVerdict, api.Foul) {
	checked, f := look(b)
	if f != api.Fair {
		return api.ClubWrong, f
	}
	e, err := readEntry(strings.TrimSuffix(reply, "\n"), 1)
	if _, f := foulOf(err); f != api.Fair {
		return api.ClubWrong, f
	}
	x, is := e.(replyEntry)
	if !is {
		return api.ClubWrong, api.BadForm
	}
	return checked.verify(x)
}
