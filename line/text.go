package line

import (
	"strings"

	"nock/api"
)

// lineKind is a kind of lines, or that there is no line yet.
type lineKind int

// Kinds of lines, in the order in which a text has them.
const (
	noLine lineKind = iota
	planLine
	personLine
	stepLine
	watchLine
	archerLine
	shotLine
)

// reader keeps what was read of a text, the number of the last line, and its kind.
type reader struct {
	plan   api.LinePlan
	watch  api.LineWatch
	number int
	last   lineKind
}

// follow leaves the reader unless the last line is of a kind that a line of another kind may follow: one from first to last.
func (r *reader) follow(kind, first, last lineKind) {
	if !within(int(r.last), int(first), int(last)) {
		panic(wrongLine(r.number))
	}
	r.last = kind
}

// add adds what a line says, unless it may not stand there.
func (r *reader) add(e entry) {
	p, w := &r.plan, &r.watch
	switch x := e.(type) {
	case planEntry:
		r.follow(planLine, noLine, noLine)
		p.Posts, p.Fails = x.posts, x.fails
	case personEntry:
		r.follow(personLine, planLine, personLine)
		p.People = append(p.People, x.LinePerson)
	case stepEntry:
		r.follow(stepLine, planLine, stepLine)
		p.Steps = append(p.Steps, x.LineStep)
	case watchEntry:
		r.follow(watchLine, planLine, stepLine)
		w.Open, w.Shut, w.Count = x.open, x.shut, x.count
	case archerEntry:
		r.follow(archerLine, watchLine, shotLine)
		w.Archers = append(w.Archers, api.LineArcher{Name: x.name, Extra: x.extra})
	case shotEntry:
		r.follow(shotLine, archerLine, shotLine)
		a := &w.Archers[len(w.Archers)-1]
		a.Shots = append(a.Shots, x.LineShot)
	}
}

// readText reads all lines of a text, and returns the number of the first wrong one with BadForm.
func readText(text string) (p api.LinePlan, w api.LineWatch, line int, f api.Foul) {
	defer func() {
		if wrong, is := recover().(wrongLine); is {
			p, w, line, f = api.LinePlan{}, api.LineWatch{}, int(wrong), api.BadForm
		}
	}()
	var r reader
	for next := range strings.Lines(text) {
		r.number++
		r.add(readEntry(strings.TrimSuffix(next, "\n"), r.number))
	}
	if r.last < watchLine {
		panic(wrongLine(0))
	}
	return r.plan, r.watch, 0, api.Fair
}

// Print returns a plan and a watch as a text.
func Print(p api.LinePlan, w api.LineWatch) (string, api.Foul) {
	if f := firstFoul(plan{p}.check, watch{w}.check); f != api.Fair {
		return "", f
	}
	text := planEntry{p.Posts, p.Fails}.print()
	for _, x := range p.People {
		text += personEntry{x}.print()
	}
	for _, x := range p.Steps {
		text += stepEntry{x}.print()
	}
	text += watchEntry{w.Open, w.Shut, w.Count}.print()
	for _, a := range w.Archers {
		text += archerEntry{a.Name, a.Extra}.print()
		for _, x := range a.Shots {
			text += shotEntry{x}.print()
		}
	}
	return text, api.Fair
}

// Parse reads a plan and a watch from a text; with BadForm it returns the number of the first wrong line.
func Parse(text string) (p api.LinePlan, w api.LineWatch, line int, f api.Foul) {
	if len(text) > api.MaxText {
		return api.LinePlan{}, api.LineWatch{}, 0, api.BadCount
	}
	p, w, line, f = readText(text)
	if f != api.Fair {
		return api.LinePlan{}, api.LineWatch{}, line, f
	}
	if f := firstFoul(plan{p}.check, watch{w}.check); f != api.Fair {
		return api.LinePlan{}, api.LineWatch{}, 0, f
	}
	return p, w, 0, api.Fair
}
