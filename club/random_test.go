package club_test

import (
	"math/rand"
	"slices"
	"sync"

	"nock/api"
	"nock/bracket"
	"nock/club"
	"nock/line"
)

var letters = []string{"a", "b", "c", "d", "e", "f", "g", "h", "i"}

func randomStock(r *rand.Rand) api.ArrowStock {
	s := api.ArrowStock{Rule: api.ArrowRule{Spine: r.Intn(9), Length: r.Intn(3), Weight: r.Intn(6), Many: between(r, 2, 4)}}
	for i := range r.Intn(10) {
		s.Shafts = append(s.Shafts, api.ArrowShaft{Name: letters[i], Spine: randomSpan(r, 400, 407), Length: randomSpan(r, 700, 701), Weight: randomSpan(r, 250, 253)})
	}
	return s
}

func randomSight(r *rand.Rand) api.SightCard {
	least := r.Intn(3)
	c := api.SightCard{Rule: api.SightRule{Least: least, Most: least + r.Intn(3), Wind: r.Intn(3), Light: r.Intn(3)}}
	for range r.Intn(4) {
		at := r.Intn(91)
		c.Shots = append(c.Shots, api.SightShot{At: at, Mark: randomSpan(r, 2*at, 3*at), Wind: r.Intn(3), Light: r.Intn(3)})
	}
	return c
}

func randomFaceArrow(r *rand.Rand, i int) api.FaceArrow {
	a := api.FaceArrow{Kind: api.FaceKind(r.Intn(3)), Shaft: r.Intn(3)}
	if a.Kind == api.FaceIn && i > 0 {
		a.In = r.Intn(i)
		return a
	}
	if a.Kind == api.FaceLost {
		return a
	}
	a.Kind = api.FaceHole
	for range between(r, 1, 2) {
		a.Boxes = append(a.Boxes, api.FaceBox{X: randomSpan(r, -6, 1), Y: randomSpan(r, 0, 7)})
	}
	return a
}

func randomEnd(r *rand.Rand) api.FaceEnd {
	e := api.FaceEnd{Target: api.FaceTarget{Rings: []api.FaceRing{{Radius: 2, Value: 10}, {Radius: 4, Value: 9}}, Inner: r.Intn(2), Spots: []api.FacePoint{{}}, Each: r.Intn(2) == 0}}
	for i := range r.Intn(5) {
		e.Arrows = append(e.Arrows, randomFaceArrow(r, i))
	}
	return e
}

func randomSheet(r *rand.Rand) api.CardSheet {
	many := between(r, 1, 3)
	c := api.CardSheet{Rule: api.CardRule{Arrows: many, Slips: r.Intn(many + 1)}}
	marks := func() []int {
		l := some(r, 12)
		if len(l) == 0 {
			return list(r.Intn(12))
		}
		return l
	}
	for range r.Intn(4) {
		var e api.CardEnd
		for range many {
			e.Marks = append(e.Marks, marks())
		}
		for range r.Intn(3) {
			e.Told = append(e.Told, randomTold(r, many))
		}
		c.Ends = append(c.Ends, e)
	}
	return c
}

// randomTold returns marks, the highest first.
func randomTold(r *rand.Rand, many int) []int {
	var l []int
	for range many {
		l = append(l, r.Intn(12))
	}
	return fallen(l)
}

func randomRound(r *rand.Rand) api.Round {
	o := api.Round{Legs: []api.RoundLeg{{Far: 70, Ends: 1, Arrows: between(r, 1, 3), Best: 11}, {Far: 50, Ends: 2, Arrows: 1, Best: 10}}}
	all := o.Legs[0].Arrows + 2
	for i := range r.Intn(7) {
		a := api.RoundArcher{Name: letters[i], Class: r.Intn(2), Out: r.Intn(6) == 0}
		for n := range between(r, all/2, all) {
			a.Arrows = append(a.Arrows, min(between(r, 7, 11), list(11, 10)[min(1, n/o.Legs[0].Arrows)]))
		}
		if !a.Out && len(a.Arrows) == all {
			for range r.Intn(3) {
				a.Offs = append(a.Offs, api.RoundOff{Number: r.Intn(12), Far: r.Intn(9)})
			}
		}
		o.Archers = append(o.Archers, a)
	}
	return o
}

// randomResult returns a result of a match with sides that it can have.
func randomResult(r *rand.Rand, b api.BracketBook) (x api.BracketResult, found bool) {
	x.Match = r.Intn(8)
	one, two, f := bracket.Sides(b, x.Match)
	if f != api.Fair {
		return x, false
	}
	x.One, x.Two = pick(r, one), pick(r, two)
	won, lost := api.BracketPair{One: 30, Two: r.Intn(30)}, api.BracketPair{One: r.Intn(30), Two: 30}
	if b.Sets == 2 && r.Intn(2) == 0 {
		x.Sets, x.Offs = []api.BracketPair{won, lost}, []api.BracketPair{{One: 5, Two: 5}, {One: r.Intn(5), Two: 5}}
		return x, true
	}
	winner := pick(r, []api.BracketPair{won, lost})
	x.Sets = slices.Repeat([]api.BracketPair{winner}, b.Sets/2+1)
	return x, true
}

func randomBracket(r *rand.Rand) api.BracketBook {
	b := api.BracketBook{Sets: between(r, 1, 5), Seeds: letters[:between(r, 2, 8)]}
	for range r.Intn(9) {
		x, found := randomResult(r, b)
		if o, f := bracket.Tell(b, x); found && f == api.Fair {
			b = o
		}
	}
	if r.Intn(8) > 0 || len(b.Results) == 0 {
		return b
	}
	// One result too many that does not fit.
	o := plain(b)
	x := plain(o.Results[0])
	for i, p := range x.Sets {
		x.Sets[i] = api.BracketPair{One: p.Two, Two: p.One}
	}
	for i, p := range x.Offs {
		x.Offs[i] = api.BracketPair{One: p.Two, Two: p.One}
	}
	o.Results = append(o.Results, x)
	if bracket.CheckBook(o) != api.Fair {
		return b
	}
	return o
}

// brackets returns some random brackets. They are made once, since that takes long.
var brackets = sync.OnceValue(func() []api.BracketBook {
	r := rand.New(rand.NewSource(1000))
	var all []api.BracketBook
	for range 300 {
		all = append(all, randomBracket(r))
	}
	return all
})

func randomPlan(r *rand.Rand) api.LinePlan {
	p := api.LinePlan{Posts: between(r, 1, 3)}
	p.Fails = some(r, p.Posts)
	for i := range between(r, 0, 3) {
		p.People = append(p.People, api.LinePerson{Name: letters[i], Post: r.Intn(p.Posts)})
	}
	signals := []api.LineSignal{api.LineCall, api.LineShoot, api.LineStop, api.LineClear}
	for i := range between(r, 1, 5) {
		s := api.LineStep{Signal: signals[i%4], Need: api.LineNeed(r.Intn(4))}
		if r.Intn(4) == 0 {
			s.Signal = pick(r, signals)
		}
		p.Steps = append(p.Steps, s)
	}
	return p
}

// randomState returns a state to which a run leads.
func randomState(r *rand.Rand, p api.LinePlan) api.LineState {
	s, _ := line.Start(p)
	for range r.Intn(12) {
		moves, _ := line.Moves(p, s)
		if len(moves) > 0 {
			s, _ = line.Step(p, s, pick(r, moves))
		}
	}
	return s
}

func randomWatch(r *rand.Rand) api.LineWatch {
	w := api.LineWatch{Open: r.Intn(9), Shut: between(r, 9, 50), Count: between(r, 1, 6)}
	for i := range r.Intn(4) {
		a := api.LineArcher{Name: letters[i], Extra: r.Intn(9)}
		for n := range r.Intn(4) {
			a.Shots = append(a.Shots, api.LineShot{At: randomSpan(r, 10*n, 10*n+30), Number: r.Intn(12)})
		}
		w.Archers = append(w.Archers, a)
	}
	if line.CheckWatch(w) != api.Fair {
		return randomWatch(r)
	}
	return w
}

func randomPeg(r *rand.Rand, i int, c api.FieldCourse) api.FieldPeg {
	return api.FieldPeg{Name: letters[i], Slant: randomSpan(r, 10, 30), Rise: randomSpan(r, -9, 9), Size: r.Intn(len(c.Sizes)), At: r.Intn(c.Points), Shoot: randomSpan(r, 1, 4), Walk: randomSpan(r, 0, 3), Lane: some(r, len(c.Paths))}
}

func randomCourse(r *rand.Rand) api.FieldCourse {
	c := api.FieldCourse{Limit: between(r, 10, 30), Points: between(r, 2, 5), Sizes: []api.Span{span(5, 15), span(10, 18)}}
	for two := range c.Points {
		for one := range two {
			if r.Intn(3) > 0 && len(c.Paths) < 9 {
				c.Paths = append(c.Paths, api.FieldPath{One: one, Two: two, Long: between(r, 1, 9)})
			}
		}
	}
	for i := range between(r, 2, 4) {
		c.Pegs = append(c.Pegs, randomPeg(r, i, c))
	}
	for i := range r.Intn(3) {
		c.Groups = append(c.Groups, api.FieldGroup{Name: letters[i], Start: i, Delay: r.Intn(4)})
	}
	return c
}

func randomBoss(r *rand.Rand) api.ButtBoss {
	b := api.ButtBoss{Limit: between(r, 5, 30), Swaps: r.Intn(3)}
	for range between(r, 1, 2) {
		b.Layers = append(b.Layers, api.ButtLayer{Wear: list(r.Intn(9), r.Intn(9), r.Intn(9), r.Intn(9))})
	}
	for range r.Intn(4) {
		b.Sessions = append(b.Sessions, api.ButtSession{Load: []api.Span{randomSpan(r, 0, 9), randomSpan(r, 0, 9), only(0), randomSpan(r, 0, 3)}})
	}
	return b
}

func randomGround(r *rand.Rand) api.ButtGround {
	var g api.ButtGround
	for i := range r.Intn(4) {
		g.Stands = append(g.Stands, api.ButtStand{Name: letters[i], Far: between(r, 50, 70), Size: pick(r, list(80, 122)), Seats: r.Intn(3)})
	}
	for i := range r.Intn(6) {
		near := between(r, 40, 70)
		g.Archers = append(g.Archers, api.ButtArcher{Name: letters[i], Size: pick(r, list(60, 80, 122)), Near: near, Far: between(r, near, 80)})
	}
	return g
}

func randomClaim(r *rand.Rand, b api.RecordBook) api.RecordClaim {
	at := r.Intn(len(b.Events))
	day := b.Events[at].Day
	c := api.RecordClaim{Archer: pick(r, letters), Event: at, Kind: r.Intn(len(b.Kinds)), Score: between(r, 5, 8), Papers: randomSpan(r, day, day+4), Gone: -1}
	if r.Intn(4) == 0 {
		c.Gone = between(r, day, 20)
	}
	return c
}

func randomRecords(r *rand.Rand) api.RecordBook {
	var b api.RecordBook
	for i := range between(r, 1, 2) {
		b.Kinds = append(b.Kinds, api.RecordKind{Name: letters[i], Star: r.Intn(3), Judges: r.Intn(4), Length: 10, Slack: r.Intn(3), Within: r.Intn(5)})
	}
	for i := range between(r, 1, 3) {
		b.Events = append(b.Events, api.RecordEvent{Name: letters[i], Day: r.Intn(9), Star: between(r, 1, 4), Judges: randomSpan(r, 1, 4), Length: randomSpan(r, 9, 12)})
	}
	for range r.Intn(5) {
		b.Claims = append(b.Claims, randomClaim(r, b))
	}
	for i := range r.Intn(3) {
		b.Classes = append(b.Classes, api.RecordClass{Name: letters[i], Score: r.Intn(9), Star: r.Intn(3), Times: between(r, 1, 3), Within: r.Intn(20)})
	}
	for i := range r.Intn(4) {
		b.Table = append(b.Table, 3*i+r.Intn(3))
	}
	return b
}

// randomBook returns a book without fouls.
func randomBook(r *rand.Rand) api.ClubBook {
	b := api.ClubBook{
		Stock:   randomStock(r),
		Sight:   randomSight(r),
		End:     randomEnd(r),
		Sheet:   randomSheet(r),
		Round:   randomRound(r),
		Bracket: pick(r, brackets()),
		Plan:    randomPlan(r),
		Watch:   randomWatch(r),
		Course:  randomCourse(r),
		Boss:    randomBoss(r),
		Ground:  randomGround(r),
		Records: randomRecords(r),
	}
	b.State = randomState(r, b.Plan)
	if club.CheckBook(b) != api.Fair {
		return randomBook(r)
	}
	return plain(b)
}

// named returns the name of one of some things, or now and then another one.
func named[T any](r *rand.Rand, all []T, nameOf func(x T) string) string {
	if len(all) == 0 || r.Intn(12) == 0 {
		return "zed"
	}
	return nameOf(pick(r, all))
}

// roundCommand returns a command for a round, a bracket or a stock.
func roundCommand(r *rand.Rand, b api.ClubBook, kind api.ClubKind) api.ClubCommand {
	archer := named(r, b.Round.Archers, func(a api.RoundArcher) string { return a.Name })
	switch kind {
	case api.ClubShoot:
		return shoot(archer, between(r, 5, 11))
	case api.ClubWithdraw:
		return withdraw(archer)
	case api.ClubMeasure:
		what := r.Intn(3)
		least := list(400, 700, 250)[what]
		return measure(named(r, b.Stock.Shafts, func(s api.ArrowShaft) string { return s.Name }), what, randomSpan(r, least, least+8))
	}
	x, _ := randomResult(r, b.Bracket)
	return result(x.Match, x.One, x.Two, numbersOf(x.Sets), numbersOf(x.Offs))
}

func numbersOf(pairs []api.BracketPair) []int {
	var l []int
	for _, p := range pairs {
		l = append(l, p.One, p.Two)
	}
	return l
}

// endCommand returns a command for a card, or an end of a face.
func endCommand(r *rand.Rand, b api.ClubBook, kind api.ClubKind) api.ClubCommand {
	many := b.Sheet.Rule.Arrows
	switch kind {
	case api.ClubLook:
		return look(r.Intn(len(b.Sheet.Ends)+1), r.Intn(many), some(r, 12)...)
	case api.ClubTell:
		return tell(r.Intn(len(b.Sheet.Ends)+1), randomTold(r, many)...)
	}
	return hole(r.Intn(len(b.End.Arrows)+1), randomSpan(r, -6, 1), randomSpan(r, 0, 7))
}

// randomCommand returns a command of a kind that does something, and that often has no foul.
func randomCommand(r *rand.Rand, b api.ClubBook) api.ClubCommand {
	kind := api.ClubKind(r.Intn(12))
	switch kind {
	case api.ClubLook, api.ClubTell, api.ClubHole:
		return endCommand(r, b, kind)
	case api.ClubGive:
		return give(some(r, b.Plan.Posts)...)
	case api.ClubGo:
		return goes(named(r, b.Plan.People, func(p api.LinePerson) string { return p.Name }), r.Intn(3))
	case api.ClubDelay:
		var delays []int
		for range b.Course.Groups {
			delays = append(delays, r.Intn(5))
		}
		return delay(delays...)
	case api.ClubLearn:
		what := between(r, 1, 3)
		least := list(0, 1, 9, 5)[what]
		return learn(what, r.Intn(3), randomSpan(r, least, least+6))
	case api.ClubGone:
		return gone(r.Intn(5), r.Intn(20))
	}
	return roundCommand(r, b, kind)
}

// randomLog returns commands of all kinds that are played one after the other, some of which are taken back or entered again.
func randomLog(r *rand.Rand, b api.ClubBook, many int) []api.ClubCommand {
	var l []api.ClubCommand
	wasBack := false
	for range many {
		switch n := r.Intn(6); {
		case wasBack && n < 3:
			l = append(l, again(r.Intn(3)))
		case n < 2:
			l = append(l, back(r.Intn(4)))
			wasBack = true
		case n == 2:
			l = append(l, again(r.Intn(3)))
		default:
			l = append(l, randomCommand(r, b))
			wasBack = false
		}
	}
	return l
}

// someSeed returns a seed that often has the gold, if one surely has it.
func someSeed(r *rand.Rand, b api.ClubBook) int {
	medals, f := bracket.Medals(b.Bracket)
	if f == api.Fair && r.Intn(3) > 0 {
		return medals.Gold
	}
	return between(r, -1, 5)
}

// randomAsk returns a question that often has no foul.
func randomAsk(r *rand.Rand, b api.ClubBook) api.ClubAsk {
	kind := api.ClubQuestion(r.Intn(8))
	switch kind {
	case api.ClubSeat, api.ClubSets:
		return asks(kind, between(r, -1, 5))
	case api.ClubGold:
		return asks(kind, someSeed(r, b))
	case api.ClubOut:
		return asks(kind, r.Intn(b.Course.Points), r.Intn(b.Course.Limit), r.Intn(20))
	case api.ClubWorn:
		return asks(kind, r.Intn(25))
	case api.ClubRecord:
		return asks(kind, r.Intn(len(b.Records.Kinds)), r.Intn(20), pick(r, list(-1, -1, 5, 6, 7, 8)))
	case api.ClubFirst:
		return asks(kind, r.Intn(len(b.Round.Archers)+1), between(r, 1, 6))
	}
	return asks(kind)
}
