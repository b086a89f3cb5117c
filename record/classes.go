package record

import "nock/api"

// standing is a class that may be given to an archer on a day: the results that it needs, and how many count.
type standing struct {
	times int
	count api.Span
}

// countIn returns how many claims stand in truths, at least and at most.
func countIn(claims []claim) api.Span {
	count := api.Span{Min: len(claims)}
	for t := range truths(claims) {
		many := 0
		for _, c := range claims {
			if t.stands(c) {
				many++
			}
		}
		count = api.Span{Min: min(count.Min, many), Max: max(count.Max, many)}
	}
	return count
}

// standingOf checks a book, that it has a class, a day and a name, and returns how the archer of this name stands on the day.
func standingOf(given api.RecordBook, class, day int, archer string) (standing, api.Foul) {
	b, f := look(given)
	if f != api.Fair {
		return standing{}, f
	}
	if f := checkIndex(class, len(b.Classes)); f != api.Fair {
		return standing{}, f
	}
	if f := checkDay(day); f != api.Fair {
		return standing{}, f
	}
	if !isName(archer) {
		return standing{}, api.BadName
	}
	x := b.Classes[class]
	isResult := func(c claim) bool {
		return c.Archer == archer && c.Score >= x.Score && c.event.Star >= x.Star && c.event.Day >= day-x.Within
	}
	return standing{x.Times, countIn(b.counting(day, isResult))}, api.Fair
}

// Class returns whether an archer has a class on a day.
func Class(b api.RecordBook, class, day int, archer string) (api.Sure, api.Foul) {
	s, f := standingOf(b, class, day, archer)
	if f != api.Fair {
		return api.Maybe, f
	}
	return sure(s.count.Min >= s.times, s.count.Max >= s.times), api.Fair
}

// Short returns how many results an archer lacks for a class on a day, at least and at most.
func Short(b api.RecordBook, class, day int, archer string) (least, most int, f api.Foul) {
	s, f := standingOf(b, class, day, archer)
	if f != api.Fair {
		return 0, 0, f
	}
	return max(0, s.times-s.count.Max), max(0, s.times-s.count.Min), api.Fair
}

// Handicap returns how many scores of the table are above a score.
func Handicap(b api.RecordBook, score int) (int, api.Foul) {
	c, f := look(b)
	if f != api.Fair {
		return 0, f
	}
	if f := checkScore(score); f != api.Fair {
		return 0, f
	}
	many := 0
	for _, other := range c.Table {
		if other > score {
			many++
		}
	}
	return many, api.Fair
}
