package record

import (
	"slices"

	"nock/api"
)

// notGone is the day on which a claim is gone that was not withdrawn.
const notGone = -1

// book is a book as it was given: it may have fouls.
type book struct{ api.RecordBook }

func (b book) check() api.Foul {
	return firstFoul(b.checkKinds, b.checkEvents, b.checkClaims, b.checkClasses, b.checkTable)
}

func (b book) checkKinds() api.Foul {
	return checkElements(len(b.Kinds), api.MaxRecordKinds, b.checkKind)
}

func (b book) checkEvents() api.Foul {
	return checkElements(len(b.Events), api.MaxRecordEvents, b.checkEvent)
}

func (b book) checkClaims() api.Foul {
	return checkElements(len(b.Claims), api.MaxRecordClaims, b.checkClaim)
}

func (b book) checkClasses() api.Foul {
	return checkElements(len(b.Classes), api.MaxRecordClasses, b.checkClass)
}

func (b book) checkTable() api.Foul {
	return checkElements(len(b.Table), api.MaxRecordTable, b.checkTableScore)
}

func (b book) checkKind(i int) api.Foul {
	k := b.Kinds[i]
	isSame := func(earlier api.RecordKind) bool { return earlier.Name == k.Name }
	switch {
	case !isName(k.Name):
		return api.BadName
	case slices.ContainsFunc(b.Kinds[:i], isSame):
		return api.Twice
	case !within(k.Star, 0, api.MaxRecordStar) || !within(k.Judges, 0, api.MaxRecordJudges) || !within(k.Length, 0, api.MaxRecordLength):
		return api.OffLimits
	case !within(k.Slack, 0, api.MaxRecordSlack) || !within(k.Within, 0, api.MaxRecordSlack):
		return api.OffLimits
	}
	return api.Fair
}

func (b book) checkEvent(i int) api.Foul {
	e := b.Events[i]
	isSame := func(earlier api.RecordEvent) bool { return earlier.Name == e.Name }
	switch {
	case !isName(e.Name):
		return api.BadName
	case slices.ContainsFunc(b.Events[:i], isSame):
		return api.Twice
	case !within(e.Day, 0, api.MaxRecordDay) || !within(e.Star, 0, api.MaxRecordStar):
		return api.OffLimits
	case !isSpan(e.Judges, 0, api.MaxRecordJudges) || !isSpan(e.Length, 0, api.MaxRecordLength):
		return api.OffLimits
	}
	return api.Fair
}

func (b book) checkClaim(i int) api.Foul {
	c := b.Claims[i]
	isBefore := func(day int) bool { return day < b.Events[c.Event].Day }
	switch {
	case !isName(c.Archer):
		return api.BadName
	case checkIndex(c.Event, len(b.Events)) != api.Fair || checkIndex(c.Kind, len(b.Kinds)) != api.Fair:
		return api.Unknown
	case checkScore(c.Score) != api.Fair || !isSpan(c.Papers, 0, api.MaxRecordDay):
		return api.OffLimits
	case isBefore(c.Papers.Min) || c.Gone != notGone && isBefore(c.Gone):
		return api.OutOfOrder
	case c.Gone > api.MaxRecordDay:
		return api.OffLimits
	}
	return api.Fair
}

func (b book) checkClass(i int) api.Foul {
	x := b.Classes[i]
	isSame := func(earlier api.RecordClass) bool { return earlier.Name == x.Name }
	switch {
	case !isName(x.Name):
		return api.BadName
	case slices.ContainsFunc(b.Classes[:i], isSame):
		return api.Twice
	case checkScore(x.Score) != api.Fair || !within(x.Star, 0, api.MaxRecordStar):
		return api.OffLimits
	case !within(x.Times, 1, api.MaxRecordTimes) || !within(x.Within, 0, api.MaxRecordSlack):
		return api.OffLimits
	}
	return api.Fair
}

func (b book) checkTableScore(i int) api.Foul {
	if f := checkScore(b.Table[i]); f != api.Fair {
		return f
	}
	if i > 0 && b.Table[i] <= b.Table[i-1] {
		return api.OutOfOrder
	}
	return api.Fair
}

// copied returns a book that shares no memory with this one.
func (b book) copied() api.RecordBook {
	return api.RecordBook{
		Kinds:   slices.Clone(b.Kinds),
		Events:  slices.Clone(b.Events),
		Claims:  slices.Clone(b.Claims),
		Classes: slices.Clone(b.Classes),
		Table:   slices.Clone(b.Table),
	}
}

// checkedBook is a book without fouls.
type checkedBook struct{ book }

// look checks a book.
func look(given api.RecordBook) (checkedBook, api.Foul) {
	b := book{given}
	if f := b.check(); f != api.Fair {
		return checkedBook{}, f
	}
	return checkedBook{b}, api.Fair
}

// lookAtClaim checks a book, and that it has a claim.
func lookAtClaim(given api.RecordBook, claim int) (checkedBook, api.Foul) {
	b, f := look(given)
	if f != api.Fair {
		return checkedBook{}, f
	}
	if f := checkIndex(claim, len(b.Claims)); f != api.Fair {
		return checkedBook{}, f
	}
	return b, api.Fair
}

// checkIndex looks at an index of a list of so many elements.
func checkIndex(i, many int) api.Foul {
	if !within(i, 0, many-1) {
		return api.Unknown
	}
	return api.Fair
}

func checkDay(day int) api.Foul {
	if !within(day, 0, api.MaxRecordDay) {
		return api.OffLimits
	}
	return api.Fair
}

func checkScore(score int) api.Foul {
	if !within(score, 0, api.MaxRecordScore) {
		return api.OffLimits
	}
	return api.Fair
}

// CheckBook returns the foul of a book.
func CheckBook(b api.RecordBook) api.Foul {
	return book{b}.check()
}
