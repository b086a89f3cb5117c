package record_test

import (
	"math/rand"
	"slices"
	"testing"

	"nock/api"
	"nock/record"
)

const (
	yes   = api.Yes
	no    = api.No
	maybe = api.Maybe
)

const (
	star   = api.RecordStar
	judges = api.RecordJudges
	length = api.RecordLength
	papers = api.RecordPapers
)

func list(numbers ...int) []int { return numbers }

func span(least, most int) api.Span { return api.Span{Min: least, Max: most} }

// only returns the span of one number.
func only(n int) api.Span { return span(n, n) }

func fact(what api.RecordNeed, i int) api.RecordFact { return api.RecordFact{What: what, Index: i} }

func facts(all ...api.RecordFact) []api.RecordFact { return all }

func needs(all ...api.RecordNeed) []api.RecordNeed { return all }

func kind(name string, star, judges, length, slack, within int) api.RecordKind {
	return api.RecordKind{Name: name, Star: star, Judges: judges, Length: length, Slack: slack, Within: within}
}

func event(name string, day, star int, judges, length api.Span) api.RecordEvent {
	return api.RecordEvent{Name: name, Day: day, Star: star, Judges: judges, Length: length}
}

func claim(archer string, event, kind, score int, papers api.Span, gone int) api.RecordClaim {
	return api.RecordClaim{Archer: archer, Event: event, Kind: kind, Score: score, Papers: papers, Gone: gone}
}

func class(name string, score, star, times, within int) api.RecordClass {
	return api.RecordClass{Name: name, Score: score, Star: star, Times: times, Within: within}
}

// exampleBook is the book B of the chapter.
func exampleBook() api.RecordBook {
	return api.RecordBook{
		Kinds: []api.RecordKind{kind("r", 2, 3, 7000, 30, 10)},
		Events: []api.RecordEvent{
			event("a", 100, 3, only(3), span(6980, 7020)),
			event("b", 200, 2, span(2, 4), only(7000)),
			event("c", 300, 1, only(5), only(7000)),
		},
		Claims: []api.RecordClaim{
			claim("ann", 0, 0, 670, span(105, 115), -1),
			claim("ben", 1, 0, 680, only(205), -1),
			claim("cem", 2, 0, 690, only(301), -1),
			claim("dia", 1, 0, 670, only(210), 400),
		},
		Classes: []api.RecordClass{class("x", 660, 2, 2, 150)},
		Table:   list(500, 600, 700),
	}
}

func withBook(changes ...func(b *api.RecordBook)) api.RecordBook {
	b := exampleBook()
	for _, change := range changes {
		change(&b)
	}
	return b
}

// greatBook is as great as a book may be.
func greatBook() api.RecordBook {
	var b api.RecordBook
	for i := range 3 {
		name := letters[i] + "bcdefghij09"
		b.Kinds = append(b.Kinds, kind(name, 5, 9-i, 99999-500*i, 999, 999))
		b.Events = append(b.Events, event(name, 9000-i, 5, span(0, 9), span(0, 99999)))
		b.Classes = append(b.Classes, class(name, 1440-i, 5, 4, 999))
	}
	for i := range 4 {
		b.Claims = append(b.Claims, claim("abcdefghij01", i%3, i%2, 1440-i/2, span(9000, 9999), 9999-10*i))
	}
	for i := range 6 {
		b.Table = append(b.Table, 1435+i)
	}
	return b
}

// openBook has four claims of one kind, all of whose needs are open.
func openBook() api.RecordBook {
	b := greatBook()
	for i := range b.Claims {
		b.Claims[i].Kind, b.Claims[i].Gone, b.Claims[i].Score = 0, -1, 100+i
		b.Claims[i].Papers = span(9000, 9999)
	}
	b.Kinds[0].Within = 500
	return b
}

var letters = []string{"a", "b", "c", "d", "e", "f"}

func sameBook(a, b api.RecordBook) bool {
	return slices.Equal(a.Kinds, b.Kinds) && slices.Equal(a.Events, b.Events) && slices.Equal(a.Claims, b.Claims) && slices.Equal(a.Classes, b.Classes) && slices.Equal(a.Table, b.Table)
}

func copyBook(b api.RecordBook) api.RecordBook {
	b.Kinds, b.Events, b.Claims, b.Classes, b.Table = slices.Clone(b.Kinds), slices.Clone(b.Events), slices.Clone(b.Claims), slices.Clone(b.Classes), slices.Clone(b.Table)
	return b
}

// fair stops a test if there is a foul.
func fair(t *testing.T, f api.Foul) {
	t.Helper()
	if f != api.Fair {
		t.Fatal("foul", f)
	}
}

func needsOf(t *testing.T, b api.RecordBook, claim int) []api.Sure {
	t.Helper()
	l, f := record.Needs(b, claim)
	fair(t, f)
	return l
}

func standsOf(t *testing.T, b api.RecordBook, claim int) api.Sure {
	t.Helper()
	s, f := record.Stands(b, claim)
	fair(t, f)
	return s
}

func lacksOf(t *testing.T, b api.RecordBook, claim int) (l []api.RecordNeed, can bool) {
	t.Helper()
	l, can, f := record.Lacks(b, claim)
	fair(t, f)
	return l, can
}

func recordsOf(t *testing.T, b api.RecordBook, kind, day int) []int {
	t.Helper()
	l, f := record.Records(b, kind, day)
	fair(t, f)
	return l
}

func holdersOf(t *testing.T, b api.RecordBook, kind, day int) (sure, can []int) {
	t.Helper()
	sure, can, f := record.Holders(b, kind, day)
	fair(t, f)
	return sure, can
}

func proofOf(t *testing.T, b api.RecordBook, kind, day int) []api.RecordFact {
	t.Helper()
	l, f := record.Proof(b, kind, day)
	fair(t, f)
	return l
}

func learnt(t *testing.T, b api.RecordBook, x api.RecordFact, in api.Span) api.RecordBook {
	t.Helper()
	o, f := record.Learn(b, x, in)
	fair(t, f)
	return o
}

func withdrawn(t *testing.T, b api.RecordBook, claim, day int) api.RecordBook {
	t.Helper()
	o, f := record.Withdraw(b, claim, day)
	fair(t, f)
	return o
}

func added(t *testing.T, b api.RecordBook, c api.RecordClaim) api.RecordBook {
	t.Helper()
	o, f := record.Add(b, c)
	fair(t, f)
	return o
}

func classOf(t *testing.T, b api.RecordBook, class, day int, archer string) api.Sure {
	t.Helper()
	s, f := record.Class(b, class, day, archer)
	fair(t, f)
	return s
}

func shortOf(t *testing.T, b api.RecordBook, class, day int, archer string) api.Span {
	t.Helper()
	least, most, f := record.Short(b, class, day, archer)
	fair(t, f)
	return span(least, most)
}

func handicapOf(t *testing.T, b api.RecordBook, score int) int {
	t.Helper()
	n, f := record.Handicap(b, score)
	fair(t, f)
	return n
}

// pick returns one of some elements.
func pick[T any](r *rand.Rand, all []T) T { return all[r.Intn(len(all))] }

// isIn says whether a number is one of a span.
func isIn(n int, x api.Span) bool { return x.Min <= n && n <= x.Max }

// keeps says whether what was certain before is so after.
func keeps(before, after api.Sure) bool { return before == maybe || before == after }

// isPart says whether all elements of a list are in another one.
func isPart[T comparable](some, all []T) bool {
	return !slices.ContainsFunc(some, func(x T) bool { return !slices.Contains(all, x) })
}

// between returns a number from least to most.
func between(r *rand.Rand, least, most int) int { return least + r.Intn(most-least+1) }

// randomSpan returns a span from least to most that is often one number.
func randomSpan(r *rand.Rand, least, most int) api.Span {
	a, b := between(r, least, most), between(r, least, most)
	if r.Intn(3) == 0 {
		return only(a)
	}
	return span(min(a, b), max(a, b))
}

// scale is how great the numbers of a random book are: its days, by how much days, judges and lengths may be apart, and how long its fields are.
type scale struct{ days, apart, judges, far, long int }

var (
	small = scale{8, 2, 2, 1, 10}
	great = scale{9000, 900, 9, 900, 50000}
)

func randomKind(r *rand.Rand, s scale, i int) api.RecordKind {
	return kind(letters[i], r.Intn(3), r.Intn(s.judges+1), s.long+between(r, -s.far, s.far), r.Intn(s.far+1), r.Intn(s.apart+1))
}

func randomEvent(r *rand.Rand, s scale, i int) api.RecordEvent {
	e := event(letters[i], r.Intn(s.days), between(r, 1, 4), randomSpan(r, 0, s.judges), only(s.long))
	if r.Intn(3) > 0 {
		e.Length = randomSpan(r, s.long-2*s.far, s.long+2*s.far)
	}
	return e
}

func randomClaim(r *rand.Rand, s scale, b api.RecordBook) api.RecordClaim {
	at := r.Intn(len(b.Events))
	day := b.Events[at].Day
	c := claim(pick(r, []string{"ann", "ann", "ben"}), at, r.Intn(len(b.Kinds)), pick(r, list(0, 5, 6, 7, 1440)), randomSpan(r, day, day+s.apart), -1)
	if r.Intn(5) == 0 {
		c.Gone = between(r, day, day+s.apart)
	}
	return c
}

// randomBook returns a book many of whose claims are open.
func randomBook(r *rand.Rand, s scale) api.RecordBook {
	var b api.RecordBook
	for i := range between(r, 1, 3) {
		b.Kinds = append(b.Kinds, randomKind(r, s, i))
	}
	for i := range between(r, 1, 3) {
		b.Events = append(b.Events, randomEvent(r, s, i))
	}
	for range min(r.Intn(7), 4) {
		b.Claims = append(b.Claims, randomClaim(r, s, b))
	}
	for i := range r.Intn(4) {
		b.Classes = append(b.Classes, class(letters[i], pick(r, list(0, 6, 7)), r.Intn(3), between(r, 1, 3), r.Intn(min(s.days, 999))))
	}
	for i := range r.Intn(7) {
		b.Table = append(b.Table, i*200+r.Intn(200))
	}
	return b
}

// openRandomBook returns a random book of which at least one claim is open, and that has no more truths than some.
func openRandomBook(r *rand.Rand, s scale, most int) api.RecordBook {
	for {
		b := randomBook(r, s)
		isOpen := false
		for i := range b.Claims {
			x, f := record.Stands(b, i)
			isOpen = isOpen || x == maybe && f == api.Fair
		}
		if isOpen && countTruths(b) <= most {
			return b
		}
	}
}

// someDay returns a day on which an event is, or a claim gone, or that is close to such a one.
func someDay(r *rand.Rand, b api.RecordBook) int {
	days := list(0, 9999)
	for _, e := range b.Events {
		days = append(days, e.Day-1, e.Day, e.Day+1)
		for _, x := range b.Classes {
			days = append(days, e.Day+x.Within, e.Day+x.Within+1)
		}
	}
	for _, c := range b.Claims {
		days = append(days, c.Gone-1, c.Gone, c.Papers.Min)
	}
	return min(max(pick(r, days), 0), 9999)
}
