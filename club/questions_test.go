package club_test

import (
	"math"
	"math/rand"
	"slices"
	"testing"

	"nock/api"
	"nock/arrow"
	"nock/bracket"
	"nock/butt"
	"nock/club"
	"nock/field"
	"nock/line"
	"nock/record"
	"nock/round"
)

// exampleRun is the list of the run of line.Risk in the example.
var exampleRun = []int{0, 0, 0, 0, 0, 0, 0, 0, 0, 2, 0, 0, 1, 0, 0, 2, 1, 0, 1, 1}

// P10.4: answers to questions.
func TestAsk(t *testing.T) {
	seats, all, sets := list(0, 1, -1, 0, -1), list(0, 1, 2, 3, 4), list(0, 1, 2, 3, 4, 5)
	for i, x := range []struct {
		q    api.ClubAsk
		yes  bool
		list []int
	}{
		{asks(api.ClubSeat, 3), true, seats}, {asks(api.ClubSeat, 0), true, seats}, {asks(api.ClubSeat, -999999999), true, seats}, {asks(api.ClubSeat, 4), false, all}, {asks(api.ClubSeat, 999999999), false, all},
		{asks(api.ClubRisk), true, exampleRun},
		{asks(api.ClubGold, 0), true, list(0)}, {asks(api.ClubGold, 1), false, nil}, {asks(api.ClubGold, 2), false, nil}, {asks(api.ClubGold, -1), false, nil}, {asks(api.ClubGold, 5), false, nil}, {asks(api.ClubGold, 999999999), false, nil},
		{asks(api.ClubSets, 2), true, sets}, {asks(api.ClubSets, 1), true, sets}, {asks(api.ClubSets, 0), true, sets}, {asks(api.ClubSets, -1), true, sets}, {asks(api.ClubSets, 3), false, nil},
		{asks(api.ClubOut, 2, 30, 70), true, list(2, 1, 0)}, {asks(api.ClubOut, 2, 30, 999999999), true, list(2, 1, 0)}, {asks(api.ClubOut, 2, 30, 69), false, nil}, {asks(api.ClubOut, 2, 30, -1), false, nil}, {asks(api.ClubOut, 2, 5, 110), true, list(2, 3, 0)}, {asks(api.ClubOut, 2, 5, 109), false, nil}, {asks(api.ClubOut, 2, 3, 999), false, nil}, {asks(api.ClubOut, 0, 3, 0), true, list(0)}, {asks(api.ClubOut, 0, 3, -1), false, nil}, {asks(api.ClubOut, 1, 3, 40), true, list(1, 0)},
		{asks(api.ClubWorn, 12), true, list(0, 1, 1, 2)}, {asks(api.ClubWorn, 999999999), true, list(0, 1, 1, 2)}, {asks(api.ClubWorn, 11), false, nil}, {asks(api.ClubWorn, -1), false, nil},
		{asks(api.ClubRecord, 0, 50, -1), true, nil}, {asks(api.ClubRecord, 0, 50, 0), false, list(-1)}, {asks(api.ClubRecord, 0, 150, 670), false, list(-1, 670)}, {asks(api.ClubRecord, 0, 250, -1), false, list(-1, 670, 680)},
		{asks(api.ClubFirst, 4, 3), true, list(0, 1)}, {asks(api.ClubFirst, 4, 1), false, nil}, {asks(api.ClubFirst, 4, 2), false, nil}, {asks(api.ClubFirst, 0, 4), true, list(1, 2, 4)}, {asks(api.ClubFirst, 3, 1), true, nil}, {asks(api.ClubFirst, 2, 1), false, nil},
	} {
		if yes, l := answered(t, exampleBook(), x.q); yes != x.yes || !slices.Equal(l, x.list) {
			t.Error(i, x.q, yes, l)
		}
	}
}

// P10.4: answers in other books.
func TestAskOther(t *testing.T) {
	for i, x := range []struct {
		change change
		q      api.ClubAsk
		yes    bool
		list   []int
	}{
		{func(b *api.ClubBook) { b.Plan.Fails = nil }, asks(api.ClubRisk), false, nil},
		{func(b *api.ClubBook) { b.Bracket.Results = nil }, asks(api.ClubGold, 0), false, nil},
		{func(b *api.ClubBook) { b.Bracket.Results = nil }, asks(api.ClubGold, -1), false, nil},
		{func(b *api.ClubBook) { b.Ground.Archers = nil }, asks(api.ClubSeat, 0), true, nil},
		{func(b *api.ClubBook) { b.Ground.Archers = nil }, asks(api.ClubSeat, 1), false, nil},
		{func(b *api.ClubBook) { b.Ground.Stands = nil }, asks(api.ClubSeat, 0), true, list(-1, -1, -1, -1, -1)},
		{func(b *api.ClubBook) { b.Ground.Stands = nil }, asks(api.ClubSeat, 1), false, list(0, 1, 2, 3, 4)},
		{func(b *api.ClubBook) { b.Stock.Shafts = nil }, asks(api.ClubSets, 0), true, nil},
		{func(b *api.ClubBook) { b.Boss.Sessions = nil }, asks(api.ClubWorn, 12), true, nil},
		{func(b *api.ClubBook) { b.Boss.Sessions = nil }, asks(api.ClubWorn, 11), false, nil},
		{func(b *api.ClubBook) { b.Records.Claims[0].Papers = only(105) }, asks(api.ClubRecord, 0, 150, 670), true, list(0)},
		{func(b *api.ClubBook) { b.Records.Events[1].Judges = only(3); b.Records.Claims[1].Score = 670 }, asks(api.ClubRecord, 0, 250, 670), true, list(1, 3)},
		{func(b *api.ClubBook) { b.Records.Claims[0].Papers = only(105); b.Records.Events[1].Judges = only(2) }, asks(api.ClubRecord, 0, 250, 670), true, list(0)},
		{func(b *api.ClubBook) { b.Round.Archers = b.Round.Archers[:1] }, asks(api.ClubFirst, 0, 1), true, nil},
	} {
		if yes, l := answered(t, with(x.change), x.q); yes != x.yes || !slices.Equal(l, x.list) {
			t.Error(i, x.q, yes, l)
		}
	}
}

// usedBy says how many numbers each kind of questions uses.
var usedBy = []int{1, 0, 1, 1, 3, 1, 3, 2}

// P10.4: the fouls of questions, of all functions that have a question.
func TestAskFouls(t *testing.T) {
	wanted := map[api.ClubAsk]api.Foul{
		asks(-1): offLimits, asks(8): offLimits, asks(math.MinInt): offLimits, asks(math.MaxInt): offLimits,
		asks(api.ClubOut, 4, 5, 5): api.Unknown, asks(api.ClubOut, -1, 1000, 5): api.Unknown, asks(api.ClubOut, 2, 1000, 5): offLimits, asks(api.ClubOut, 2, -1, 5): offLimits, asks(api.ClubOut, 3, 999, 5): ok, asks(api.ClubOut, 4, 1000000000, 5): offLimits, asks(api.ClubOut, 4, 999999999, 5): api.Unknown, asks(api.ClubOut, 4, 0, -1000000000): offLimits,
		asks(api.ClubRecord, 1, 5, 5): api.Unknown, asks(api.ClubRecord, -1, -1, 5): api.Unknown, asks(api.ClubRecord, 0, 10000, 5): offLimits, asks(api.ClubRecord, 0, -1, 5): offLimits, asks(api.ClubRecord, 0, 9999, -999999999): ok, asks(api.ClubRecord, 1, -1000000000, 5): offLimits, asks(api.ClubRecord, 1, 0, 1000000000): offLimits,
		asks(api.ClubFirst, 5, 0): api.Unknown, asks(api.ClubFirst, -1, 1): api.Unknown, asks(api.ClubFirst, 0, 0): offLimits, asks(api.ClubFirst, 0, 7): offLimits, asks(api.ClubFirst, 0, 6): ok, asks(api.ClubFirst, 5, 1000000000): offLimits, asks(api.ClubFirst, 1000000000, 0): offLimits,
	}
	for kind, used := range usedBy {
		for i := range 3 {
			for _, n := range list(-999999999, -1, 1, 999999999, -1000000000, 1000000000, math.MinInt, math.MaxInt) {
				numbers := list(0, 0, 0)
				if kind == int(api.ClubFirst) {
					numbers[1] = 1
				}
				numbers[i] = n
				q := asks(api.ClubQuestion(kind), numbers...)
				if i >= used || n < -999999999 || n > 999999999 {
					wanted[q] = offLimits
				} else if kind < int(api.ClubOut) || kind == int(api.ClubWorn) || i == 2 {
					wanted[q] = ok
				}
			}
		}
	}
	for q, want := range wanted {
		yes, l, f := club.Ask(exampleBook(), q)
		is, g := club.Proves(exampleBook(), q, false, nil)
		s, h := club.Reply(exampleBook(), q)
		if f != want || g != want || h != want || want != ok && (yes || is || len(l) > 0 || s != "") {
			t.Error(q, yes, l, is, s, f, g, h, want)
		}
	}
}

// P10.4: results that do not fit have a foul, too.
func TestAskAgainst(t *testing.T) {
	b := with(func(b *api.ClubBook) {
		lost := slices.Repeat([]api.BracketPair{{One: 1, Two: 2}}, 3)
		b.Bracket.Results = append(b.Bracket.Results, api.BracketResult{Match: 4, One: 0, Two: 4, Sets: lost})
	})
	for _, q := range []api.ClubAsk{asks(api.ClubGold, 0), asks(api.ClubGold, -1), asks(api.ClubGold, 99)} {
		yes, l, f := club.Ask(b, q)
		is, g := club.Proves(b, q, true, list(0))
		if s, h := club.Reply(b, q); yes || is || len(l) > 0 || s != "" || f != api.Against || g != f || h != f {
			t.Error(q, yes, l, is, s, f, g, h)
		}
	}
	if f := club.CheckBook(b); f != ok {
		t.Error(f)
	}
	if yes, _ := answered(t, b, asks(api.ClubSeat, 3)); !yes {
		t.Error("a question of another kind")
	}
}

// flat returns the numbers of moves.
func flat(run []api.LineMove) []int {
	var l []int
	for _, m := range run {
		bits := 0
		for _, p := range m.Missed {
			bits += []int{1, 2, 4}[p]
		}
		l = append(l, int(m.Kind), bits, m.Person, int(m.To))
	}
	return l
}

// wantedAsk is what Ask must return to a question that is within its limits.
func wantedAsk(b api.ClubBook, q api.ClubAsk) (yes bool, l []int, f api.Foul) {
	switch q.Kind {
	case api.ClubSeat:
		seats, many, _ := butt.Seat(b.Ground)
		archers, _ := butt.Proof(b.Ground)
		if many >= q.A {
			return true, seats, ok
		}
		return false, archers, ok
	case api.ClubRisk:
		run, found, _ := line.Risk(b.Plan)
		return found, flat(run), ok
	case api.ClubGold:
		results, gold, f := bracket.Because(b.Bracket)
		if f != ok || gold == -1 || gold != q.A {
			return false, nil, f
		}
		return true, results, ok
	case api.ClubSets:
		sets, _, _ := arrow.Fill(b.Stock)
		if len(sets) < q.A {
			return false, nil, ok
		}
		return true, slices.Concat(sets...), ok
	case api.ClubOut:
		points, long, found, f := field.Rescue(b.Course, q.A, q.B)
		if f != ok || !found || long > q.C {
			return false, nil, f
		}
		return true, points, ok
	case api.ClubWorn:
		plan, worst, _ := butt.Best(b.Boss)
		if worst > q.A {
			return false, nil, ok
		}
		for _, x := range plan {
			l = append(l, x.Layer, x.Turn)
		}
		return true, l, ok
	case api.ClubRecord:
		records, f := record.Records(b.Records, q.A, q.B)
		sure, _, _ := record.Holders(b.Records, q.A, q.B)
		if f != ok || len(records) != 1 || records[0] != q.C {
			return false, records, f
		}
		return true, sure, ok
	}
	among, f := round.Among(b.Round, q.A, q.B)
	threats, _ := round.Threats(b.Round, q.A)
	if f != ok || among != api.Yes {
		return false, nil, f
	}
	return true, threats, ok
}

// P10.4: random questions to random books are answered by the functions of the other chapters.
func TestAskRandom(t *testing.T) {
	r := rand.New(rand.NewSource(1017))
	said := make(map[api.ClubQuestion][3]int)
	for range 3000 {
		b := randomBook(r)
		q := randomAsk(r, b)
		yes, l, f := club.Ask(b, q)
		if wantYes, want, foul := wantedAsk(b, q); yes != wantYes || !slices.Equal(l, want) || f != foul {
			t.Fatal(b, q, yes, l, f, wantYes, want, foul)
		}
		n := said[q.Kind]
		switch {
		case f != ok:
			n[2]++
		case yes:
			n[1]++
		default:
			n[0]++
		}
		said[q.Kind] = n
	}
	for kind, n := range said {
		hasFouls := kind == api.ClubGold || kind == api.ClubFirst
		if n[0] < 20 || n[1] < 20 || hasFouls && n[2] < 5 {
			t.Error(kind, n)
		}
	}
}

// P2: what is surely the record is so whatever is learnt, and each record that is possible can be.
func TestAskRecordTruths(t *testing.T) {
	r := rand.New(rand.NewSource(1018))
	many := 0
	for range 400 {
		b := randomBook(r)
		day := r.Intn(20)
		truths := truthsOf(t, b)
		if len(truths) > 60 {
			continue
		}
		var found []int
		for _, x := range truths {
			_, l := answered(t, x, asks(api.ClubRecord, 0, day, -2))
			if len(l) != 1 {
				t.Fatal(x, day, l)
			}
			found = append(found, l[0])
		}
		slices.Sort(found)
		found = slices.Compact(found)
		if _, l := answered(t, b, asks(api.ClubRecord, 0, day, -2)); !slices.Equal(l, found) {
			t.Fatal(b, day, l, found)
		}
		for n := -1; n < 10; n++ {
			if yes, _ := answered(t, b, asks(api.ClubRecord, 0, day, n)); yes != slices.Equal(found, list(n)) {
				t.Fatal(b, day, n, found)
			}
		}
		many++
	}
	if many < 50 {
		t.Error(many)
	}
}

// truthsOf returns the books in which all facts of the records are learnt to one number.
func truthsOf(t *testing.T, b api.ClubBook) []api.ClubBook {
	t.Helper()
	all := []api.ClubBook{b}
	settle := func(what, index int, x api.Span) {
		var next []api.ClubBook
		for _, o := range all {
			for n := x.Min; n <= x.Max && len(next) <= 60; n++ {
				next = append(next, done(t, o, learn(what, index, only(n))))
			}
		}
		all = next
	}
	for i, e := range b.Records.Events {
		settle(1, i, e.Judges)
		settle(2, i, e.Length)
	}
	for i, c := range b.Records.Claims {
		settle(3, i, c.Papers)
	}
	return all
}

// P3: what was certain stays so, whatever is measured, told, learnt or shot.
func TestAskNews(t *testing.T) {
	r := rand.New(rand.NewSource(1019))
	many := make(map[api.ClubKind]int)
	for range 1500 {
		b := randomBook(r)
		c := randomCommand(r, b)
		kinds := map[api.ClubKind]api.ClubQuestion{api.ClubResult: api.ClubGold, api.ClubMeasure: api.ClubSets, api.ClubLearn: api.ClubRecord, api.ClubShoot: api.ClubFirst}
		kind, found := kinds[c.Kind]
		o, f := club.Do(b, c)
		if !found || f != ok {
			continue
		}
		for range 12 {
			q := until(func(q api.ClubAsk) api.Foul {
				if q.Kind != kind {
					return api.Against
				}
				_, _, f := club.Ask(b, q)
				return f
			}, func() api.ClubAsk { return randomAsk(r, b) })
			if yes, _ := answered(t, b, q); !yes {
				continue
			}
			many[c.Kind]++
			if yes, _ := answered(t, o, q); !yes {
				t.Fatal(b, c, q)
			}
		}
	}
	if len(many) < 4 {
		t.Error(many)
	}
}
