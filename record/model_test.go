package record_test

import (
	"iter"
	"slices"

	"nock/api"
)

// found gives each fact of a book the number that it has.
type found map[api.RecordFact]int

// allFacts returns all facts of a book, in order.
func allFacts(b api.RecordBook) []api.RecordFact {
	var all []api.RecordFact
	for i := range b.Events {
		all = append(all, fact(judges, i))
	}
	for i := range b.Events {
		all = append(all, fact(length, i))
	}
	for i := range b.Claims {
		all = append(all, fact(papers, i))
	}
	return all
}

// spanIn returns the span of a fact.
func spanIn(b api.RecordBook, x api.RecordFact) api.Span {
	switch x.What {
	case judges:
		return b.Events[x.Index].Judges
	case length:
		return b.Events[x.Index].Length
	}
	return b.Claims[x.Index].Papers
}

// few is how many numbers of a span are all looked at.
const few = 5

// numbersOf returns the numbers that a fact can have: all of a short span; of a long one its ends, and those at which something may change for a claim.
func numbersOf(b api.RecordBook, x api.RecordFact) []int {
	s := spanIn(b, x)
	var all []int
	if s.Max-s.Min < few {
		for n := s.Min; n <= s.Max; n++ {
			all = append(all, n)
		}
		return all
	}
	for _, k := range b.Kinds {
		all = append(all, s.Min, s.Max)
		switch x.What {
		case judges:
			all = append(all, k.Judges-1, k.Judges)
		case length:
			all = append(all, k.Length-k.Slack-1, k.Length-k.Slack, k.Length+k.Slack, k.Length+k.Slack+1)
		case papers:
			last := b.Events[b.Claims[x.Index].Event].Day + k.Within
			all = append(all, last, last+1)
		}
	}
	slices.Sort(all)
	return slices.DeleteFunc(slices.Compact(all), func(n int) bool { return !isIn(n, s) })
}

func countTruths(b api.RecordBook) int {
	many := 1
	for _, x := range allFacts(b) {
		many *= len(numbersOf(b, x))
	}
	return many
}

// truths yields all truths of a book.
func truths(b api.RecordBook) iter.Seq[found] {
	all := allFacts(b)
	return func(yield func(x found) bool) {
		x := make(found)
		var fill func(i int) bool
		fill = func(i int) bool {
			if i == len(all) {
				return yield(x)
			}
			for _, n := range numbersOf(b, all[i]) {
				x[all[i]] = n
				if !fill(i + 1) {
					return false
				}
			}
			return true
		}
		fill(0)
	}
}

// metIn says of each need whether a claim meets it in a truth.
func metIn(b api.RecordBook, x found, claim int) []bool {
	c := b.Claims[claim]
	e, k := b.Events[c.Event], b.Kinds[c.Kind]
	off := x[fact(length, c.Event)] - k.Length
	return []bool{e.Star >= k.Star, x[fact(judges, c.Event)] >= k.Judges, max(off, -off) <= k.Slack, x[fact(papers, claim)]-e.Day <= k.Within}
}

func standsIn(b api.RecordBook, x found, claim int) bool {
	return !slices.Contains(metIn(b, x, claim), false)
}

// countsOn says whether a claim counts on a day.
func countsOn(b api.RecordBook, claim, day int) bool {
	c := b.Claims[claim]
	return day >= b.Events[c.Event].Day && (c.Gone == -1 || day < c.Gone)
}

// recordIn returns the record of a kind on a day in a truth, and the claims that hold it.
func recordIn(b api.RecordBook, x found, kind, day int) (record int, holders []int) {
	record = -1
	for i, c := range b.Claims {
		switch {
		case c.Kind != kind || !countsOn(b, i, day) || !standsIn(b, x, i) || c.Score < record:
		case c.Score > record:
			record, holders = c.Score, list(i)
		default:
			holders = append(holders, i)
		}
	}
	return record, holders
}

// resultsIn returns how many results of an archer count for a class on a day in a truth.
func resultsIn(b api.RecordBook, x found, class, day int, archer string) int {
	k, many := b.Classes[class], 0
	for i, c := range b.Claims {
		e := b.Events[c.Event]
		if c.Archer == archer && countsOn(b, i, day) && standsIn(b, x, i) && c.Score >= k.Score && e.Star >= k.Star && day-e.Day <= k.Within {
			many++
		}
	}
	return many
}

// sureOf returns what is to be said of something that was so in some of many truths.
func sureOf(so, many int) api.Sure {
	switch so {
	case 0:
		return no
	case many:
		return yes
	}
	return maybe
}
