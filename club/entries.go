package club

import (
	"errors"
	"iter"
	"slices"
	"strconv"
	"strings"

	"nock/api"
)

// Words of lines that are no commands.
const (
	partWord  = "part"
	stateWord = "state"
	askWord   = "ask"
	replyWord = "reply"
)

// Words of a reply that say whether the answer is yes.
const (
	noWord  = "no"
	yesWord = "yes"
)

// wrongLine is the error that a line of a text has a foul; with the number 0 that the text has one.
type wrongLine struct {
	number int
	foul   api.Foul
}

func (w wrongLine) Error() string {
	return "foul " + strconv.Itoa(int(w.foul)) + " in line " + strconv.Itoa(w.number)
}

// foulOf returns the number of a wrong line, and its foul; 0 and Fair if there is no error.
func foulOf(err error) (number int, f api.Foul) {
	var wrong wrongLine
	if errors.As(err, &wrong) {
		return wrong.number, wrong.foul
	}
	return 0, api.Fair
}

// entry is what a line says: its fields are what is printed after its word.
type entry interface {
	fields() []string
}

// printEntry returns a line of a word and fields.
func printEntry(word string, e entry) string {
	return printLine(word, e.fields()) + "\n"
}

// printLine returns a line without its line feed.
func printLine(word string, fields []string) string {
	return strings.Join(append([]string{word}, fields...), " ")
}

// partEntry says which part of a file begins, how many lines it has, and what their sum is.
type partEntry struct {
	word       string
	lines, sum int
}

type stateEntry struct{ api.LineState }

type commandEntry struct{ api.ClubCommand }

type askEntry struct{ api.ClubAsk }

// replyEntry says what was asked, what the answer was, and what the sum of all that is.
type replyEntry struct {
	question api.ClubAsk
	answer
	sum int
}

func (e partEntry) fields() []string {
	return append([]string{e.word}, printNumbers(e.lines, e.sum)...)
}

func (e stateEntry) fields() []string {
	var stands []int
	for _, x := range e.People {
		stands = append(stands, int(x.Heard), int(x.Place))
	}
	return []string{strconv.Itoa(e.Next), printList(stands)}
}

func (e commandEntry) fields() []string {
	var all []string
	for _, has := range commandKinds()[e.Kind].has {
		all = append(all, has.print(e.ClubCommand))
	}
	return all
}

func (e askEntry) fields() []string {
	return append([]string{questionKinds()[e.Kind].word}, printNumbers(e.A, e.B, e.C)...)
}

// unsealed returns the fields without the sum.
func (e replyEntry) unsealed() []string {
	said := noWord
	if e.yes {
		said = yesWord
	}
	return append(askEntry{e.question}.fields(), said, printList(e.list))
}

// seal returns the sum that the reply must have.
func (e replyEntry) seal() int {
	return sumFrom(0, printLine(replyWord, e.unsealed()))
}

func (e replyEntry) fields() []string {
	return append(e.unsealed(), strconv.Itoa(e.sum))
}

func readPart(f *fields) entry {
	e := partEntry{word: f.next()}
	e.lines = f.number()
	f.need(e.lines >= 0)
	e.sum = f.number()
	return e
}

func readState(f *fields) entry {
	e := stateEntry{api.LineState{Next: f.number()}}
	stands := f.list()
	f.need(len(stands)%2 == 0)
	for x := range slices.Chunk(stands, 2) {
		e.People = append(e.People, api.LineStand{Heard: api.LineSignal(x[0]), Place: api.LinePlace(x[1])})
	}
	return e
}

func readQuestion(f *fields) api.ClubAsk {
	var words []string
	for _, k := range questionKinds() {
		words = append(words, k.word)
	}
	q := api.ClubAsk{Kind: api.ClubQuestion(f.word(words...))}
	for _, n := range []*int{&q.A, &q.B, &q.C} {
		*n = f.number()
	}
	return q
}

func readAsk(f *fields) entry {
	return askEntry{readQuestion(f)}
}

func readReply(f *fields) entry {
	e := replyEntry{question: readQuestion(f)}
	e.yes = f.word(noWord, yesWord) == 1
	e.list = f.list()
	e.sum = f.number()
	return e
}

// readers returns what reads the fields of a line, by its word.
func readers() map[string]func(f *fields) entry {
	all := map[string]func(f *fields) entry{
		partWord:  readPart,
		stateWord: readState,
		askWord:   readAsk,
		replyWord: readReply,
	}
	for kind, k := range commandKinds() {
		all[k.word] = func(f *fields) entry {
			c := api.ClubCommand{Kind: api.ClubKind(kind)}
			for _, has := range k.has {
				has.read(f, &c)
			}
			return commandEntry{c}
		}
	}
	return all
}

// readEntry reads the line of a text that has a number, without its line feed.
func readEntry(text string, number int) (e entry, err error) {
	defer func() {
		if _, is := recover().(wrongField); is {
			e, err = nil, wrongLine{number, api.BadForm}
		}
	}()
	f := &fields{strings.Split(text, " ")}
	// Where a blank is too many, or the line is empty, a field is empty.
	f.need(!slices.Contains(f.left, ""))
	read, found := readers()[f.next()]
	f.need(found)
	e = read(f)
	f.need(len(f.left) == 0)
	return e, nil
}

// linesOf yields the numbers of the lines of a text, from 1, and the lines without their line feeds.
func linesOf(text string) iter.Seq2[int, string] {
	return func(yield func(number int, line string) bool) {
		number := 0
		for line := range strings.Lines(text) {
			number++
			if !yield(number, strings.TrimSuffix(line, "\n")) {
				return
			}
		}
	}
}

// checkLength looks at how many bytes and lines a text has.
func checkLength(text string) api.Foul {
	if len(text) > api.MaxText {
		return api.BadCount
	}
	for number := range linesOf(text) {
		if number > api.MaxClubLines {
			return api.BadCount
		}
	}
	return api.Fair
}
