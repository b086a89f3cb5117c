package club

import (
	"cmp"
	"slices"

	"nock/api"
	"nock/arrow"
	"nock/bracket"
	"nock/butt"
	"nock/card"
	"nock/face"
	"nock/field"
	"nock/line"
	"nock/record"
	"nock/round"
)

// checkedBook is a book without fouls.
type checkedBook struct{ api.ClubBook }

// look checks a book.
func look(given api.ClubBook) (checkedBook, api.Foul) {
	if f := CheckBook(given); f != api.Fair {
		return checkedBook{}, f
	}
	return checkedBook{given}, api.Fair
}

// CheckBook returns the foul of a book.
func CheckBook(b api.ClubBook) api.Foul {
	return cmp.Or(
		arrow.CheckStock(b.Stock),
		arrow.CheckCard(b.Sight),
		face.CheckEnd(b.End),
		card.CheckCard(b.Sheet),
		round.CheckRound(b.Round),
		bracket.CheckBook(b.Bracket),
		line.CheckPlan(b.Plan),
		line.CheckState(b.Plan, b.State),
		line.CheckWatch(b.Watch),
		field.CheckCourse(b.Course),
		butt.CheckBoss(b.Boss),
		butt.CheckGround(b.Ground),
		record.CheckBook(b.Records),
	)
}

// copied returns a book that shares no memory with this one.
func (b checkedBook) copied() checkedBook {
	return checkedBook{api.ClubBook{
		Stock:   api.ArrowStock{Rule: b.Stock.Rule, Shafts: slices.Clone(b.Stock.Shafts)},
		Sight:   api.SightCard{Rule: b.Sight.Rule, Shots: slices.Clone(b.Sight.Shots)},
		End:     copyEnd(b.End),
		Sheet:   api.CardSheet{Rule: b.Sheet.Rule, Ends: copyEach(b.Sheet.Ends, copyCardEnd)},
		Round:   api.Round{Legs: slices.Clone(b.Round.Legs), Archers: copyEach(b.Round.Archers, copyRoundArcher)},
		Bracket: copyBracket(b.Bracket),
		Plan:    copyPlan(b.Plan),
		State:   api.LineState{Next: b.State.Next, People: slices.Clone(b.State.People)},
		Watch:   copyWatch(b.Watch),
		Course:  copyCourse(b.Course),
		Boss:    copyBoss(b.Boss),
		Ground:  api.ButtGround{Stands: slices.Clone(b.Ground.Stands), Archers: slices.Clone(b.Ground.Archers)},
		Records: copyRecords(b.Records),
	}}
}

// copyEach returns a list of copies of elements.
func copyEach[T any](all []T, copied func(x T) T) []T {
	var o []T
	for _, x := range all {
		o = append(o, copied(x))
	}
	return o
}

func copyEnd(e api.FaceEnd) api.FaceEnd {
	e.Target.Rings = slices.Clone(e.Target.Rings)
	e.Target.Spots = slices.Clone(e.Target.Spots)
	e.Arrows = copyEach(e.Arrows, func(a api.FaceArrow) api.FaceArrow {
		a.Boxes = slices.Clone(a.Boxes)
		return a
	})
	return e
}

func copyCardEnd(e api.CardEnd) api.CardEnd {
	return api.CardEnd{Marks: copyEach(e.Marks, slices.Clone), Told: copyEach(e.Told, slices.Clone)}
}

func copyRoundArcher(a api.RoundArcher) api.RoundArcher {
	a.Arrows = slices.Clone(a.Arrows)
	a.Offs = slices.Clone(a.Offs)
	return a
}

func copyBracket(b api.BracketBook) api.BracketBook {
	b.Seeds = slices.Clone(b.Seeds)
	b.Results = copyEach(b.Results, func(r api.BracketResult) api.BracketResult {
		r.Sets = slices.Clone(r.Sets)
		r.Offs = slices.Clone(r.Offs)
		return r
	})
	return b
}

func copyPlan(p api.LinePlan) api.LinePlan {
	p.Fails = slices.Clone(p.Fails)
	p.People = slices.Clone(p.People)
	p.Steps = slices.Clone(p.Steps)
	return p
}

func copyWatch(w api.LineWatch) api.LineWatch {
	w.Archers = copyEach(w.Archers, func(a api.LineArcher) api.LineArcher {
		a.Shots = slices.Clone(a.Shots)
		return a
	})
	return w
}

func copyCourse(c api.FieldCourse) api.FieldCourse {
	c.Sizes = slices.Clone(c.Sizes)
	c.Paths = slices.Clone(c.Paths)
	c.Pegs = copyEach(c.Pegs, func(p api.FieldPeg) api.FieldPeg {
		p.Lane = slices.Clone(p.Lane)
		return p
	})
	c.Groups = slices.Clone(c.Groups)
	return c
}

func copyBoss(b api.ButtBoss) api.ButtBoss {
	b.Layers = copyEach(b.Layers, func(l api.ButtLayer) api.ButtLayer {
		return api.ButtLayer{Wear: slices.Clone(l.Wear)}
	})
	b.Sessions = copyEach(b.Sessions, func(s api.ButtSession) api.ButtSession {
		return api.ButtSession{Load: slices.Clone(s.Load)}
	})
	return b
}

func copyRecords(b api.RecordBook) api.RecordBook {
	return api.RecordBook{
		Kinds:   slices.Clone(b.Kinds),
		Events:  slices.Clone(b.Events),
		Claims:  slices.Clone(b.Claims),
		Classes: slices.Clone(b.Classes),
		Table:   slices.Clone(b.Table),
	}
}
