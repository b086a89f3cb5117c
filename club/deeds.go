package club

import (
	"slices"

	"nock/api"
	"nock/arrow"
	"nock/bracket"
	"nock/card"
	"nock/face"
	"nock/field"
	"nock/line"
	"nock/record"
	"nock/round"
)

func (b checkedBook) archer(name string) int {
	return find(b.Round.Archers, name, func(a api.RoundArcher) string { return a.Name })
}

func (b checkedBook) shaft(name string) int {
	return find(b.Stock.Shafts, name, func(s api.ArrowShaft) string { return s.Name })
}

func (b checkedBook) person(name string) int {
	return find(b.Plan.People, name, func(p api.LinePerson) string { return p.Name })
}

func (b *checkedBook) shoot(archer int, c api.ClubCommand) (f api.Foul) {
	b.Round, f = round.Shoot(b.Round, archer, c.A)
	return f
}

func (b *checkedBook) withdraw(archer int, _ api.ClubCommand) (f api.Foul) {
	b.Round, f = round.Withdraw(b.Round, archer)
	return f
}

// pairsOf returns the pairs of a list with an even number of elements.
func pairsOf(list []int) []api.BracketPair {
	var pairs []api.BracketPair
	for x := range slices.Chunk(list, 2) {
		pairs = append(pairs, api.BracketPair{One: x[0], Two: x[1]})
	}
	return pairs
}

func (b *checkedBook) addResult(_ int, c api.ClubCommand) (f api.Foul) {
	r := api.BracketResult{Match: c.A, One: c.B, Two: c.C, Sets: pairsOf(c.List), Offs: pairsOf(c.More)}
	b.Bracket, f = bracket.Tell(b.Bracket, r)
	return f
}

func (b *checkedBook) measure(shaft int, c api.ClubCommand) (f api.Foul) {
	b.Stock, f = arrow.Measure(b.Stock, shaft, api.ArrowWhat(c.A), c.X)
	return f
}

func (b *checkedBook) lookAtArrow(_ int, c api.ClubCommand) (f api.Foul) {
	b.Sheet, f = card.Look(b.Sheet, c.A, c.B, c.List)
	return f
}

func (b *checkedBook) tell(_ int, c api.ClubCommand) (f api.Foul) {
	b.Sheet, f = card.Tell(b.Sheet, c.A, c.List)
	return f
}

func (b *checkedBook) narrow(_ int, c api.ClubCommand) (f api.Foul) {
	b.End, f = face.Narrow(b.End, c.A, api.FaceBox{X: c.X, Y: c.Y})
	return f
}

func (b *checkedBook) give(_ int, c api.ClubCommand) (f api.Foul) {
	b.State, f = line.Step(b.Plan, b.State, api.LineMove{Kind: api.LineGive, Missed: c.List})
	return f
}

func (b *checkedBook) goTo(person int, c api.ClubCommand) (f api.Foul) {
	b.State, f = line.Step(b.Plan, b.State, api.LineMove{Kind: api.LineGo, Person: person, To: api.LinePlace(c.A)})
	return f
}

func (b *checkedBook) delay(_ int, c api.ClubCommand) (f api.Foul) {
	b.Course, f = field.Delayed(b.Course, c.List)
	return f
}

func (b *checkedBook) learn(_ int, c api.ClubCommand) (f api.Foul) {
	b.Records, f = record.Learn(b.Records, api.RecordFact{What: api.RecordNeed(c.A), Index: c.B}, c.X)
	return f
}

func (b *checkedBook) withdrawClaim(_ int, c api.ClubCommand) (f api.Foul) {
	b.Records, f = record.Withdraw(b.Records, c.A, c.B)
	return f
}

// do does what a command does that has no foul itself.
func (b checkedBook) do(c api.ClubCommand) (checkedBook, api.Foul) {
	k := commandKinds()[c.Kind]
	if k.do == nil {
		return checkedBook{}, api.OutOfOrder
	}
	found := nobody
	if k.find != nil {
		found = k.find(b, c.Name)
		if found == nobody {
			return checkedBook{}, api.Unknown
		}
	}
	if f := k.do(&b, found, c); f != api.Fair {
		return checkedBook{}, f
	}
	return b, api.Fair
}

// Do returns the book in which a command is done.
func Do(b api.ClubBook, c api.ClubCommand) (api.ClubBook, api.Foul) {
	checked, f := look(b)
	if f != api.Fair {
		return api.ClubBook{}, f
	}
	if f := CheckCommand(c); f != api.Fair {
		return api.ClubBook{}, f
	}
	o, f := checked.do(c)
	if f != api.Fair {
		return api.ClubBook{}, f
	}
	return o.copied().ClubBook, api.Fair
}
