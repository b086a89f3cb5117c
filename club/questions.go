package club

import (
	"slices"

	"nock/api"
	"nock/arrow"
	"nock/bracket"
	"nock/butt"
	"nock/field"
	"nock/line"
	"nock/record"
	"nock/round"
)

// answer is what is answered to a question.
type answer struct {
	yes  bool
	list []int
}

// questionKind is a kind of questions: its word, how many numbers it uses, what answers it, and what says whether a list proves that the answer is yes, or no (if there are such proofs).
type questionKind struct {
	word      string
	uses      int
	ask       func(b checkedBook, q api.ClubAsk) (answer, api.Foul)
	provesYes func(b checkedBook, q api.ClubAsk, list []int) bool
	provesNo  func(b checkedBook, q api.ClubAsk, list []int) bool
}

func questionKinds() []questionKind {
	return []questionKind{
		api.ClubSeat:   {word: "seat", uses: 1, ask: checkedBook.askSeat, provesYes: checkedBook.seats, provesNo: checkedBook.lacks},
		api.ClubRisk:   {word: "risk", uses: 0, ask: checkedBook.askRisk, provesYes: checkedBook.endangers},
		api.ClubGold:   {word: "gold", uses: 1, ask: checkedBook.askGold, provesYes: checkedBook.decides},
		api.ClubSets:   {word: "sets", uses: 1, ask: checkedBook.askSets, provesYes: checkedBook.shares},
		api.ClubOut:    {word: "out", uses: 3, ask: checkedBook.askOut, provesYes: checkedBook.leadsOut},
		api.ClubWorn:   {word: "worn", uses: 1, ask: checkedBook.askWorn, provesYes: checkedBook.wears},
		api.ClubRecord: {word: "record", uses: 3, ask: checkedBook.askRecord},
		api.ClubFirst:  {word: "first", uses: 2, ask: checkedBook.askFirst},
	}
}

// used returns a question with those numbers alone that its kind uses.
func (k questionKind) used(q api.ClubAsk) api.ClubAsk {
	if k.uses < 1 {
		q.A = 0
	}
	if k.uses < 2 {
		q.B = 0
	}
	if k.uses < 3 {
		q.C = 0
	}
	return q
}

// kindOf returns the kind of a question, unless its kind or a number is off limits.
func kindOf(q api.ClubAsk) (questionKind, api.Foul) {
	kinds := questionKinds()
	if !within(int(q.Kind), 0, len(kinds)-1) {
		return questionKind{}, api.OffLimits
	}
	k := kinds[q.Kind]
	if !isNumber(q.A) || !isNumber(q.B) || !isNumber(q.C) || q != k.used(q) {
		return questionKind{}, api.OffLimits
	}
	return k, api.Fair
}

func (b checkedBook) askSeat(q api.ClubAsk) (answer, api.Foul) {
	seats, many, f := butt.Seat(b.Ground)
	if many >= q.A {
		return answer{true, seats}, f
	}
	archers, f := butt.Proof(b.Ground)
	return answer{false, archers}, f
}

func (b checkedBook) askRisk(q api.ClubAsk) (answer, api.Foul) {
	run, found, f := line.Risk(b.Plan)
	var list []int
	for _, m := range run {
		list = append(list, int(m.Kind), bitsOf(m.Missed), m.Person, int(m.To))
	}
	return answer{found, list}, f
}

func (b checkedBook) askGold(q api.ClubAsk) (answer, api.Foul) {
	results, gold, f := bracket.Because(b.Bracket)
	if gold == nobody || gold != q.A {
		return answer{}, f
	}
	return answer{true, results}, f
}

func (b checkedBook) askSets(q api.ClubAsk) (answer, api.Foul) {
	sets, _, f := arrow.Fill(b.Stock)
	if len(sets) < q.A {
		return answer{}, f
	}
	return answer{true, slices.Concat(sets...)}, f
}

func (b checkedBook) askOut(q api.ClubAsk) (answer, api.Foul) {
	points, long, found, f := field.Rescue(b.Course, q.A, q.B)
	if !found || long > q.C {
		return answer{}, f
	}
	return answer{true, points}, f
}

func (b checkedBook) askWorn(q api.ClubAsk) (answer, api.Foul) {
	plan, worst, f := butt.Best(b.Boss)
	if worst > q.A {
		return answer{}, f
	}
	var list []int
	for _, t := range plan {
		list = append(list, t.Layer, t.Turn)
	}
	return answer{true, list}, f
}

func (b checkedBook) askRecord(q api.ClubAsk) (answer, api.Foul) {
	records, f := record.Records(b.Records, q.A, q.B)
	if !slices.Equal(records, []int{q.C}) {
		return answer{false, records}, f
	}
	sure, _, f := record.Holders(b.Records, q.A, q.B)
	return answer{true, sure}, f
}

func (b checkedBook) askFirst(q api.ClubAsk) (answer, api.Foul) {
	among, f := round.Among(b.Round, q.A, q.B)
	if among != api.Yes {
		return answer{}, f
	}
	threats, f := round.Threats(b.Round, q.A)
	return answer{true, threats}, f
}

// ask answers a question.
func (b checkedBook) ask(q api.ClubAsk) (answer, api.Foul) {
	k, f := kindOf(q)
	if f != api.Fair {
		return answer{}, f
	}
	x, f := k.ask(b, q)
	if f != api.Fair {
		return answer{}, f
	}
	return x, api.Fair
}

// Ask returns whether the answer to a question is yes, and a list that goes with it.
func Ask(b api.ClubBook, q api.ClubAsk) (yes bool, list []int, f api.Foul) {
	checked, f := look(b)
	if f != api.Fair {
		return false, nil, f
	}
	x, f := checked.ask(q)
	return x.yes, x.list, f
}
