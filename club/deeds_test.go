package club_test

import (
	"math/rand"
	"slices"
	"testing"

	"nock/api"
	"nock/arrow"
	"nock/bracket"
	"nock/card"
	"nock/club"
	"nock/face"
	"nock/field"
	"nock/line"
	"nock/record"
	"nock/round"
)

// P10.1: what commands do, and nothing else changes.
func TestDo(t *testing.T) {
	for i, x := range []struct {
		c    api.ClubCommand
		want change
	}{
		{shoot("ann", 9), func(b *api.ClubBook) { b.Round.Archers[0].Arrows = list(10, 9, 11, 10, 8, 9) }},
		{shoot("dot", 0), func(b *api.ClubBook) { b.Round.Archers[3].Arrows = list(10, 0) }},
		{withdraw("ben"), func(b *api.ClubBook) { b.Round.Archers[1].Out = true }},
		{result(4, 0, 4, list(30, 29, 30, 28, 30, 27), nil), func(b *api.ClubBook) {
			sets := []api.BracketPair{{One: 30, Two: 29}, {One: 30, Two: 28}, {One: 30, Two: 27}}
			b.Bracket.Results = append(b.Bracket.Results, api.BracketResult{Match: 4, One: 0, Two: 4, Sets: sets})
		}},
		{result(5, 1, 2, list(30, 30, 30, 30, 30, 30, 30, 30, 30, 30), list(7, 7, 9, 8)), func(b *api.ClubBook) {
			x := api.BracketResult{Match: 5, One: 1, Two: 2, Sets: slices.Repeat([]api.BracketPair{{One: 30, Two: 30}}, 5), Offs: []api.BracketPair{{One: 7, Two: 7}, {One: 9, Two: 8}}}
			b.Bracket.Results = append(b.Bracket.Results, x)
		}},
		{measure("d", 0, span(400, 410)), func(b *api.ClubBook) { b.Stock.Shafts[3].Spine = span(409, 410) }},
		{measure("f", 1, span(702, 709)), func(b *api.ClubBook) { b.Stock.Shafts[5].Length = only(702) }},
		{measure("a", 2, span(251, 251)), func(b *api.ClubBook) { b.Stock.Shafts[0].Weight = only(251) }},
		{look(0, 1, 7, 8), func(b *api.ClubBook) { b.Sheet.Ends[0].Marks[1] = list(8) }},
		{look(1, 0, 7), func(b *api.ClubBook) { b.Sheet.Ends[1].Marks[0] = list(7) }},
		{tell(1, 10, 7, 6), func(b *api.ClubBook) { b.Sheet.Ends[1].Told = [][]int{{10, 7, 6}} }},
		{hole(0, span(2, 9), span(-1, 1)), func(b *api.ClubBook) { b.End.Arrows[0].Boxes[0] = api.FaceBox{X: span(2, 3), Y: only(0)} }},
		{hole(2, span(0, 9), span(1, 5)), func(b *api.ClubBook) { b.End.Arrows[2].Boxes = []api.FaceBox{{X: only(0), Y: only(1)}} }},
		{give(), func(b *api.ClubBook) {
			b.State = api.LineState{Next: 1, People: []api.LineStand{{Heard: api.LineCall}, {Heard: api.LineCall}}}
		}},
		{give(1), func(b *api.ClubBook) {
			b.State = api.LineState{Next: 1, People: []api.LineStand{{Heard: api.LineCall}, {}}}
		}},
		{delay(3, 12), func(b *api.ClubBook) { b.Course.Groups[0].Delay, b.Course.Groups[1].Delay = 3, 12 }},
		{learn(1, 1, span(3, 9)), func(b *api.ClubBook) { b.Records.Events[1].Judges = span(3, 4) }},
		{learn(2, 0, span(7000, 9999)), func(b *api.ClubBook) { b.Records.Events[0].Length = span(7000, 7020) }},
		{learn(3, 0, span(0, 108)), func(b *api.ClubBook) { b.Records.Claims[0].Papers = span(105, 108) }},
		{gone(1, 220), func(b *api.ClubBook) { b.Records.Claims[1].Gone = 220 }},
	} {
		b := exampleBook()
		o, f := club.Do(b, x.c)
		if f != api.Fair || !same(o, with(x.want)) {
			t.Error(i, o, f)
		}
		if !same(b, exampleBook()) {
			t.Error(i, "the book was changed")
		}
	}
	b := done(t, exampleBook(), give(), goes("bob", 1))
	if want := with(func(b *api.ClubBook) {
		b.State = api.LineState{Next: 1, People: []api.LineStand{{Heard: api.LineCall}, {Heard: api.LineCall, Place: api.LineOn}}}
	}); !same(b, want) {
		t.Error(b.State)
	}
}

// P10.1: the fouls of commands, in their order.
func TestDoFouls(t *testing.T) {
	for i, x := range []struct {
		c    api.ClubCommand
		want api.Foul
	}{
		{api.ClubCommand{Kind: 14}, api.OffLimits}, {shoot("", 9), api.BadName}, {give(make([]int, 25)...), api.BadCount}, {back(1), api.OutOfOrder}, {again(1), api.OutOfOrder}, {back(-1), api.OutOfOrder}, {again(0), api.OutOfOrder}, {api.ClubCommand{Kind: api.ClubBack, B: 1}, api.OffLimits},
		{shoot("red", 9), api.Unknown}, {shoot("bob", 99), api.Unknown}, {withdraw("a"), api.Unknown}, {measure("ann", 0, span(2, 1)), api.Unknown}, {goes("cam", 1), api.Unknown}, {goes("s", 0), api.Unknown},
		{shoot("ann", 12), api.OffLimits}, {shoot("ann", 11), api.OffLimits}, {shoot("ann", -1), api.OffLimits}, {shoot("cam", 99), api.OutOfOrder}, {withdraw("cam"), api.OutOfOrder},
		{result(0, 0, 0, nil, nil), api.Unknown}, {result(4, 1, 0, nil, nil), api.Against}, {result(4, 0, 4, list(61, 0), nil), api.OffLimits}, {result(4, 0, 4, list(9, 8), nil), api.NotEnough}, {result(4, 0, 4, list(0, 9, 0, 9, 0, 9), nil), api.Against}, {result(4, 0, 4, make([]int, 12), nil), api.BadCount}, {result(4, 0, 4, make([]int, 10), list(1000, 0)), api.OffLimits},
		{measure("a", 0, span(2, 1)), api.OffLimits}, {measure("a", 0, span(0, 10000)), api.OffLimits}, {measure("a", 0, span(0, 399)), api.Against},
		{look(2, 0, 9), api.Unknown}, {look(0, 3, 9), api.Unknown}, {look(0, 0), api.BadCount}, {look(0, 0, 12), api.OffLimits}, {look(0, 0, 9, 9), api.OutOfOrder}, {look(0, 0, 1), api.Against},
		{tell(-1, 9, 9, 9), api.Unknown}, {tell(0, 9, 9), api.BadCount}, {tell(0, 9, 9, 12), api.OffLimits}, {tell(0, 9, 10, 9), api.OutOfOrder},
		{hole(4, only(0), only(0)), api.Unknown}, {hole(0, span(1, 0), only(0)), api.OffLimits}, {hole(0, only(0), only(301)), api.OffLimits}, {hole(3, only(0), only(0)), api.Against}, {hole(0, only(1), only(1)), api.Against},
		{give(0), api.Against}, {give(1, 1), api.Against}, {goes("ann", 1), api.Against}, {goes("ann", 0), api.Against}, {delay(1), api.BadCount}, {delay(1, 2, 3), api.BadCount}, {delay(0, 13), api.OffLimits}, {delay(-1, 0), api.OffLimits},
		{learn(1, 3, only(0)), api.Unknown}, {learn(3, 4, only(0)), api.Unknown}, {learn(1, 0, span(2, 1)), api.OffLimits}, {learn(2, 0, span(0, 100000)), api.OffLimits}, {learn(1, 0, only(4)), api.Against},
		{gone(4, 0), api.Unknown}, {gone(0, 10000), api.OffLimits}, {gone(3, 500), api.OutOfOrder}, {gone(0, 99), api.OutOfOrder},
	} {
		if o, f := club.Do(exampleBook(), x.c); f != x.want || !isZero(o) {
			t.Error(i, x.c, f)
		}
	}
}

// indexOf returns the index of the first thing with a name, or -1.
func indexOf[T any](all []T, name string, nameOf func(x T) string) int {
	return slices.IndexFunc(all, func(x T) bool { return nameOf(x) == name })
}

// pairsOf returns the pairs of a list.
func pairsOf(l []int) []api.BracketPair {
	var pairs []api.BracketPair
	for i := 0; i < len(l); i += 2 {
		pairs = append(pairs, api.BracketPair{One: l[i], Two: l[i+1]})
	}
	return pairs
}

// deed does what a command without fouls does by the functions of the chapters 1 to 9.
func deed(b *api.ClubBook, c api.ClubCommand) (f api.Foul) {
	archer := indexOf(b.Round.Archers, c.Name, func(a api.RoundArcher) string { return a.Name })
	shaft := indexOf(b.Stock.Shafts, c.Name, func(s api.ArrowShaft) string { return s.Name })
	person := indexOf(b.Plan.People, c.Name, func(p api.LinePerson) string { return p.Name })
	unknown := map[api.ClubKind]bool{api.ClubShoot: archer < 0, api.ClubWithdraw: archer < 0, api.ClubMeasure: shaft < 0, api.ClubGo: person < 0}
	if unknown[c.Kind] {
		return api.Unknown
	}
	switch c.Kind {
	case api.ClubShoot:
		b.Round, f = round.Shoot(b.Round, archer, c.A)
	case api.ClubWithdraw:
		b.Round, f = round.Withdraw(b.Round, archer)
	case api.ClubResult:
		b.Bracket, f = bracket.Tell(b.Bracket, api.BracketResult{Match: c.A, One: c.B, Two: c.C, Sets: pairsOf(c.List), Offs: pairsOf(c.More)})
	case api.ClubMeasure:
		b.Stock, f = arrow.Measure(b.Stock, shaft, api.ArrowWhat(c.A), c.X)
	case api.ClubLook:
		b.Sheet, f = card.Look(b.Sheet, c.A, c.B, c.List)
	case api.ClubTell:
		b.Sheet, f = card.Tell(b.Sheet, c.A, c.List)
	case api.ClubHole:
		b.End, f = face.Narrow(b.End, c.A, api.FaceBox{X: c.X, Y: c.Y})
	case api.ClubGive:
		b.State, f = line.Step(b.Plan, b.State, api.LineMove{Missed: c.List})
	case api.ClubGo:
		b.State, f = line.Step(b.Plan, b.State, api.LineMove{Kind: api.LineGo, Person: person, To: api.LinePlace(c.A)})
	case api.ClubDelay:
		b.Course, f = field.Delayed(b.Course, c.List)
	case api.ClubLearn:
		b.Records, f = record.Learn(b.Records, api.RecordFact{What: api.RecordNeed(c.A), Index: c.B}, c.X)
	case api.ClubGone:
		b.Records, f = record.Withdraw(b.Records, c.A, c.B)
	default:
		return api.OutOfOrder
	}
	return f
}

// wantedDo is what Do must return.
func wantedDo(b api.ClubBook, c api.ClubCommand) (api.ClubBook, api.Foul) {
	f := club.CheckBook(b)
	if f == api.Fair {
		f = commandFoul(c)
	}
	o := plain(b)
	if f == api.Fair {
		f = deed(&o, c)
	}
	if f != api.Fair {
		return api.ClubBook{}, f
	}
	return o, api.Fair
}

// P10.1: random commands do in random books what the functions of the other chapters do.
func TestDoRandom(t *testing.T) {
	r := rand.New(rand.NewSource(1003))
	well := make(map[api.ClubKind]int)
	badly := make(map[api.ClubKind]int)
	for range 3000 {
		b := randomBook(r)
		c := randomCommand(r, b)
		if r.Intn(10) == 0 {
			c = anyCommand(r)
		}
		o, f := club.Do(b, c)
		if want, foul := wantedDo(b, c); f != foul || !same(o, want) {
			t.Fatal(b, c, o, f, want, foul)
		}
		if f == api.Fair {
			well[c.Kind]++
		} else {
			badly[c.Kind]++
		}
	}
	for kind := api.ClubShoot; kind < api.ClubBack; kind++ {
		if well[kind] < 10 || badly[kind] < 10 {
			t.Error(kind, well[kind], badly[kind])
		}
	}
}

// P5: commands for different parts may come in any order.
func TestDoAnyOrder(t *testing.T) {
	r := rand.New(rand.NewSource(1004))
	many := 0
	for range 2000 {
		b := randomBook(r)
		one, two := randomCommand(r, b), randomCommand(r, b)
		if partOf(one) == partOf(two) {
			continue
		}
		x, f := club.Do(b, one)
		if f != api.Fair {
			continue
		}
		y, g := club.Do(b, two)
		xy, f1 := club.Do(x, two)
		if g != f1 {
			t.Fatal(b, one, two, g, f1)
		}
		if g != api.Fair {
			continue
		}
		yx, f2 := club.Do(y, one)
		if f2 != api.Fair || !same(xy, yx) {
			t.Fatal(b, one, two, f2)
		}
		many++
	}
	if many < 100 {
		t.Error(many)
	}
}

// partOf returns by which part of a book it is that a command changes something.
func partOf(c api.ClubCommand) string {
	return []string{"round", "round", "bracket", "stock", "card", "card", "face", "state", "state", "field", "record", "record"}[c.Kind]
}

// P5: the order of archers, of shafts and of people changes no more than their indexes.
func TestDoTurned(t *testing.T) {
	r := rand.New(rand.NewSource(1005))
	turn := func(b api.ClubBook) api.ClubBook {
		b = plain(b)
		slices.Reverse(b.Round.Archers)
		slices.Reverse(b.Stock.Shafts)
		slices.Reverse(b.Plan.People)
		slices.Reverse(b.State.People)
		return b
	}
	for range 1500 {
		b := randomBook(r)
		c := randomCommand(r, b)
		o, f := club.Do(b, c)
		turned, g := club.Do(turn(b), c)
		if f != g || !same(turn(o), turned) {
			t.Fatal(b, c, f, g)
		}
	}
}
