package club_test

import (
	"iter"
	"math"
	"math/rand"
	"slices"
	"testing"

	"nock/api"
	"nock/arrow"
	"nock/bracket"
	"nock/butt"
	"nock/club"
	"nock/field"
	"nock/line"
)

// proof is a list, and whether it proves an answer.
type proof struct {
	q    api.ClubAsk
	yes  bool
	list []int
	want bool
}

func checkProofs(t *testing.T, b api.ClubBook, all []proof) {
	t.Helper()
	for i, x := range all {
		if is := proved(t, b, x.q, x.yes, x.list); is != x.want {
			t.Error(i, x.q, x.yes, x.list, is)
		}
	}
}

// P10.4: what proves that archers can have stands, or cannot.
func TestProvesSeat(t *testing.T) {
	three, four := asks(api.ClubSeat, 3), asks(api.ClubSeat, 4)
	checkProofs(t, exampleBook(), []proof{
		{three, true, list(0, 1, -1, 0, -1), true}, {three, true, list(-1, -1, 1, 0, 0), true}, {three, true, list(0, -1, 1, 0, -1), true}, {asks(api.ClubSeat, 2), true, list(0, 1, -1, 0, -1), true}, {asks(api.ClubSeat, -5), true, list(-1, -1, -1, -1, -1), true}, {asks(api.ClubSeat, 0), true, list(-1, -1, -1, -1, -1), true},
		{asks(api.ClubSeat, 1), true, list(-1, -1, -1, -1, -1), false}, {four, true, list(0, 1, -1, 0, -1), false}, {three, true, list(0, 1, -1, -1, -1), false}, {three, true, list(0, 1, -1, 0), false}, {three, true, list(0, 1, -1, 0, -1, -1), false}, {three, true, nil, false}, {asks(api.ClubSeat, 0), true, nil, false},
		{three, true, list(0, 1, 1, 0, -1), false}, {three, true, list(0, 1, -1, 0, 0), false}, {three, true, list(0, 2, -1, 0, -1), false}, {three, true, list(0, 1, -1, 0, -2), false}, {asks(api.ClubSeat, 0), true, list(3, -1, -1, -1, -1), false}, {asks(api.ClubSeat, 0), true, list(math.MaxInt, -1, -1, -1, -1), false}, {asks(api.ClubSeat, 0), true, list(math.MinInt, -1, -1, -1, -1), false}, {three, true, list(1, 1, -1, 0, -1), false},
		{four, false, list(0, 1, 2, 3, 4), true}, {four, false, list(0, 3, 4), false}, {asks(api.ClubSeat, 5), false, list(0, 3, 4), true}, {asks(api.ClubSeat, 5), false, list(1, 2), true}, {four, false, list(1, 2), false}, {asks(api.ClubSeat, 6), false, nil, true}, {asks(api.ClubSeat, 5), false, nil, false}, {three, false, list(0, 1, 2, 3, 4), false}, {asks(api.ClubSeat, 999999999), false, list(2), true},
		{asks(api.ClubSeat, 9), false, list(5), false}, {asks(api.ClubSeat, 9), false, list(-1), false}, {asks(api.ClubSeat, 9), false, list(2, 1), false}, {asks(api.ClubSeat, 9), false, list(1, 1), false}, {four, false, list(0, 0, 1, 2, 3, 4), false}, {four, false, list(0, 1, -1, 0, -1), false},
	})
}

// P10.4: what proves that a plan is not safe.
func TestProvesRisk(t *testing.T) {
	q := asks(api.ClubRisk)
	withRun := func(i, n int) []int {
		l := slices.Clone(exampleRun)
		l[i] = n
		return l
	}
	// Ann goes behind the line, and before it again.
	longer := slices.Concat(exampleRun[:16], list(1, 0, 0, 0), exampleRun[12:])
	checkProofs(t, exampleBook(), []proof{
		{q, true, exampleRun, true}, {q, false, exampleRun, false}, {q, false, nil, false}, {q, true, nil, false}, {q, true, exampleRun[:16], false}, {q, true, exampleRun[:19], false}, {q, true, exampleRun[4:], false}, {q, true, append(slices.Clone(exampleRun), 0), false}, {q, true, append(slices.Clone(exampleRun), 1, 0, 1, 0), false}, {q, true, longer, true}, {q, true, longer[:20], false},
		{q, true, slices.Concat(exampleRun[:12], list(1, 0, 1, 1), exampleRun[12:16]), true}, {q, true, slices.Concat(exampleRun[:12], list(1, 0, 0, 2, 1, 0, 0, 0, 1, 0, 1, 1)), false}, {q, true, slices.Concat(exampleRun, list(1, 0, 1, 0, 1, 0, 1, 1)), true},
		{q, true, withRun(1, 2), true}, {q, true, withRun(5, 2), false}, {q, true, withRun(1, 1), false}, {q, true, withRun(1, 8), false}, {q, true, withRun(9, 0), false}, {q, true, withRun(9, 10), false}, {q, true, withRun(9, -6), false}, {q, true, withRun(9, math.MinInt+2), false}, {q, true, withRun(9, 1<<32+2), false}, {q, true, withRun(9, 3), false},
		{q, true, withRun(0, 2), false}, {q, true, withRun(0, -1), false}, {q, true, withRun(0, 1), false}, {q, true, withRun(2, 1), false}, {q, true, withRun(3, 1), false}, {q, true, withRun(13, 1), false}, {q, true, withRun(13, 2), false}, {q, true, withRun(14, 2), false}, {q, true, withRun(14, -1), false}, {q, true, withRun(15, 3), false}, {q, true, withRun(15, -1), false}, {q, true, withRun(12, 2), false}, {q, true, withRun(19, 2), false},
	})
	safe := with(func(b *api.ClubBook) { b.Plan.Fails = nil })
	checkProofs(t, safe, []proof{{q, true, exampleRun, false}, {q, true, nil, false}, {q, false, nil, false}})
}

// P10.4: what proves that a seed surely wins the final.
func TestProvesGold(t *testing.T) {
	q := asks(api.ClubGold, 0)
	checkProofs(t, exampleBook(), []proof{
		{q, true, list(0), true}, {q, true, list(0, 1), true}, {q, true, list(1), false}, {q, true, nil, false}, {q, true, list(1, 0), false}, {q, true, list(0, 0), false}, {q, true, list(0, 1, 1), false}, {q, true, list(2), false}, {q, true, list(0, 2), false}, {q, true, list(-1, 0), false}, {q, true, list(-1), false}, {q, true, list(math.MaxInt), false}, {q, true, list(math.MinInt, 0), false},
		{q, false, list(0), false}, {q, false, nil, false}, {asks(api.ClubGold, 1), true, list(0), false}, {asks(api.ClubGold, 1), false, list(0), false}, {asks(api.ClubGold, 1), false, nil, false}, {asks(api.ClubGold, -1), true, list(1), false}, {asks(api.ClubGold, -1), true, nil, false}, {asks(api.ClubGold, -1), false, nil, false}, {asks(api.ClubGold, 99), true, list(0), false},
	})
}

// P10.4: what proves that there are so many sets.
func TestProvesSets(t *testing.T) {
	two, one := asks(api.ClubSets, 2), asks(api.ClubSets, 1)
	checkProofs(t, exampleBook(), []proof{
		{two, true, list(0, 1, 2, 3, 4, 5), true}, {two, true, list(3, 4, 5, 0, 1, 2), true}, {one, true, list(0, 1, 2, 3, 4, 5), true}, {one, true, list(3, 4, 5), true}, {asks(api.ClubSets, 0), true, list(0, 1, 2), true}, {asks(api.ClubSets, 0), true, nil, true}, {asks(api.ClubSets, -3), true, nil, true},
		{two, true, list(0, 1, 2), false}, {asks(api.ClubSets, 3), true, list(0, 1, 2, 3, 4, 5), false}, {one, true, nil, false}, {one, true, list(0, 1), false}, {one, true, list(0, 1, 2, 3), false}, {asks(api.ClubSets, 0), true, list(0), false}, {asks(api.ClubSets, 0), true, list(0, 1), false}, {asks(api.ClubSets, -1), true, list(0, 1, 3), false}, {one, true, list(2, 1, 0), false}, {one, true, list(0, 0, 1), false}, {one, true, list(0, 1, 9), false}, {one, true, list(-1, 0, 1), false}, {one, true, list(0, 1, math.MaxInt), false},
		{one, true, list(0, 1, 3), false}, {one, true, list(0, 1, 6), false}, {one, true, list(0, 1, 2, 3, 4, 6), false}, {two, true, list(0, 1, 2, 0, 1, 2), false}, {two, true, list(0, 1, 2, 2, 4, 5), false}, {one, true, list(0, 1, 2, 0, 1, 2), false}, {two, false, nil, false}, {asks(api.ClubSets, 3), false, nil, false}, {two, false, list(0, 1, 2, 3, 4, 5), false},
	})
	pairs := with(func(b *api.ClubBook) { b.Stock.Rule.Many = 2 })
	checkProofs(t, pairs, []proof{{one, true, list(0, 1), true}, {two, true, list(0, 1), false}, {two, true, list(0, 1, 4, 5), true}, {one, true, list(0, 1, 2), false}, {one, true, list(0, 3), false}})
}

// P10.4: what proves that there is a way out.
func TestProvesOut(t *testing.T) {
	late, early := asks(api.ClubOut, 2, 30, 999), asks(api.ClubOut, 2, 5, 110)
	checkProofs(t, exampleBook(), []proof{
		{early, true, list(2, 3, 0), true}, {asks(api.ClubOut, 2, 5, 109), true, list(2, 3, 0), false}, {early, true, list(2, 1, 0), false}, {asks(api.ClubOut, 2, 30, 70), true, list(2, 1, 0), true}, {asks(api.ClubOut, 2, 30, 69), true, list(2, 1, 0), false}, {late, true, list(2, 3, 0), true}, {asks(api.ClubOut, 2, 30, 130), true, list(2, 3, 2, 1, 0), true}, {asks(api.ClubOut, 2, 30, 129), true, list(2, 3, 2, 1, 0), false}, {asks(api.ClubOut, 2, 30, 150), true, list(2, 1, 0, 1, 0), true}, {asks(api.ClubOut, 2, 30, 149), true, list(2, 1, 0, 1, 0), false},
		{late, true, list(2, 0), false}, {late, true, list(1, 0), false}, {late, true, list(2, 1), false}, {late, true, list(2), false}, {late, true, list(0), false}, {late, true, nil, false}, {late, true, list(2, 2, 1, 0), false}, {late, true, list(2, 9, 0), false}, {late, true, list(2, -1, 0), false}, {late, true, list(2, math.MaxInt, 0), false}, {late, true, list(0, 1, 2), false}, {late, true, list(2, 1, 0, 3), false}, {late, true, list(3, 2, 1, 0), false},
		{asks(api.ClubOut, 0, 30, 0), true, list(0), true}, {asks(api.ClubOut, 0, 30, -1), true, list(0), false}, {asks(api.ClubOut, 0, 30, 999), true, nil, false}, {asks(api.ClubOut, 0, 30, 999), true, list(0, 0), false}, {asks(api.ClubOut, 0, 30, 80), true, list(0, 1, 0), true}, {asks(api.ClubOut, 0, 30, 79), true, list(0, 1, 0), false},
		{late, false, nil, false}, {late, false, list(2, 1, 0), false}, {asks(api.ClubOut, 2, 3, 999), false, nil, false}, {asks(api.ClubOut, 2, 3, 999), true, list(2, 3, 0), false}, {asks(api.ClubOut, 2, 3, 999), true, list(2, 1, 0), false}, {asks(api.ClubOut, 1, 3, 40), true, list(1, 0), true}, {asks(api.ClubOut, 3, 3, 80), true, list(3, 0), true}, {asks(api.ClubOut, 2, 30, 0), true, list(2, 1, 0), false},
	})
}

// P10.4: what proves that there is a plan with so little wear; records and first ones are not proved.
func TestProvesRest(t *testing.T) {
	much := asks(api.ClubWorn, 99)
	checkProofs(t, exampleBook(), []proof{
		{asks(api.ClubWorn, 12), true, list(0, 1, 1, 2), true}, {asks(api.ClubWorn, 11), true, list(0, 1, 1, 2), false}, {much, true, list(0, 1, 1, 2), true}, {asks(api.ClubWorn, 16), true, list(0, 1, 0, 3), true}, {asks(api.ClubWorn, 15), true, list(0, 1, 0, 3), false}, {asks(api.ClubWorn, 23), true, list(0, 2, 0, 2), true}, {asks(api.ClubWorn, 22), true, list(0, 2, 0, 2), false},
		{much, true, list(1, 1, 0, 3), false}, {much, true, list(0, 1, 1), false}, {much, true, list(0, 1), false}, {much, true, list(0, 1, 1, 2, 0), false}, {much, true, list(0, 1, 1, 2, 0, 0), false}, {much, true, nil, false}, {much, true, list(0, 4, 0, 0), false}, {much, true, list(0, -1, 0, 0), false}, {much, true, list(2, 0, 0, 0), false}, {much, true, list(-1, 0, 0, 0), false}, {much, true, list(0, 0, 0, math.MaxInt), false}, {much, false, list(0, 1, 1, 2), false}, {asks(api.ClubWorn, 11), false, nil, false},
		{asks(api.ClubRecord, 0, 50, -1), true, nil, false}, {asks(api.ClubRecord, 0, 50, 0), false, list(-1), false}, {asks(api.ClubRecord, 0, 150, 670), false, list(-1, 670), false}, {asks(api.ClubFirst, 4, 3), true, list(0, 1), false}, {asks(api.ClubFirst, 4, 1), false, nil, false}, {asks(api.ClubFirst, 3, 1), true, nil, false},
	})
	none := with(func(b *api.ClubBook) { b.Boss.Sessions = nil })
	checkProofs(t, none, []proof{{asks(api.ClubWorn, 12), true, nil, true}, {asks(api.ClubWorn, 11), true, nil, false}, {asks(api.ClubWorn, 12), true, list(0, 0), false}, {asks(api.ClubWorn, 12), true, list(0), false}})
}

// lists yields all lists of numbers from least to most, of many elements.
func lists(many, least, most int) iter.Seq[[]int] {
	return func(yield func(l []int) bool) {
		l := make([]int, many)
		var fill func(i int) bool
		fill = func(i int) bool {
			if i == many {
				return yield(slices.Clone(l))
			}
			for n := least; n <= most; n++ {
				l[i] = n
				if !fill(i + 1) {
					return false
				}
			}
			return true
		}
		fill(0)
	}
}

// isSeating says whether a list is a seating of so many archers at least.
func isSeating(b api.ClubBook, many int, l []int) bool {
	taken := make(map[int]int)
	for i, stand := range l {
		if stand == -1 {
			continue
		}
		can, _ := butt.Can(b.Ground, i)
		if !slices.Contains(can, stand) {
			return false
		}
		taken[stand]++
		many--
	}
	for stand, n := range taken {
		if n > b.Ground.Stands[stand].Seats {
			return false
		}
	}
	return len(l) == len(b.Ground.Archers) && many <= 0
}

// isLack says whether some archers lack so many seats that fewer than many have one.
func isLack(b api.ClubBook, many int, l []int) bool {
	seats, used := 0, make(map[int]bool)
	for i, archer := range l {
		can, f := butt.Can(b.Ground, archer)
		if f != ok || i > 0 && archer <= l[i-1] {
			return false
		}
		for _, stand := range can {
			if !used[stand] {
				used[stand] = true
				seats += b.Ground.Stands[stand].Seats
			}
		}
	}
	return len(b.Ground.Archers)-max(0, len(l)-seats) < many
}

// P10.4, P10.8, P4: of all lists those prove that there are seats, or not, that are seatings, or lacks; one of them exists just if Ask says so.
func TestProvesAllSeatings(t *testing.T) {
	r := rand.New(rand.NewSource(1020))
	for range 60 {
		b := randomBook(r)
		archers, stands := len(b.Ground.Archers), len(b.Ground.Stands)
		if archers > 3 {
			continue
		}
		for many := -1; many <= archers+1; many++ {
			q := asks(api.ClubSeat, many)
			yes, _ := answered(t, b, q)
			found := make(map[bool]bool)
			for length := range archers + 2 {
				for l := range lists(length, -2, max(stands, archers)) {
					one, other := proved(t, b, q, true, l), proved(t, b, q, false, l)
					if one != isSeating(b, many, l) || other != isLack(b, many, l) {
						t.Fatal(b.Ground, many, l, one, other)
					}
					found[true], found[false] = found[true] || one, found[false] || other
				}
			}
			if !found[yes] || found[!yes] {
				t.Fatal(b.Ground, many, yes, found)
			}
		}
	}
}

// isWay says whether a list is a way out from a point in a minute, and no longer than may be.
func isWay(b api.ClubBook, q api.ClubAsk, l []int) bool {
	if len(l) == 0 || l[0] != q.A || l[len(l)-1] != 0 {
		return false
	}
	shot, _ := field.Shot(b.Course, q.B)
	long := 0
	for i := 1; i < len(l); i++ {
		joined := false
		for k, p := range b.Course.Paths {
			open := true
			for peg, is := range shot {
				open = open && (is == api.No || !slices.Contains(b.Course.Pegs[peg].Lane, k))
			}
			if open && (p.One == l[i] && p.Two == l[i-1] || p.Two == l[i] && p.One == l[i-1]) {
				joined = true
				long += p.Long
			}
		}
		if !joined {
			return false
		}
	}
	return long <= q.C
}

// P10.4, P10.8, P4: of all lists of points those prove a way out that are one; one of them exists just if Ask says so.
func TestProvesAllWays(t *testing.T) {
	r := rand.New(rand.NewSource(1021))
	yeses := 0
	for range 150 {
		b := randomBook(r)
		points := b.Course.Points
		if points > 4 {
			continue
		}
		q := asks(api.ClubOut, r.Intn(points), r.Intn(12), r.Intn(20))
		yes, _ := answered(t, b, q)
		found := false
		for length := range points + 1 {
			for l := range lists(length, 0, points-1) {
				is := proved(t, b, q, true, l)
				if is != isWay(b, q, l) || proved(t, b, q, false, l) {
					t.Fatal(b.Course, q, l, is)
				}
				found = found || is
			}
		}
		if found != yes {
			t.Fatal(b.Course, q, yes, found)
		}
		if yes {
			yeses++
		}
	}
	if yeses < 20 {
		t.Error(yeses)
	}
}

// P10.4, P10.8, P4: of all plans those prove that wear is so little that are right, and wear so little; one of them exists just if Ask says so.
func TestProvesAllPlans(t *testing.T) {
	r := rand.New(rand.NewSource(1022))
	for range 80 {
		b := randomBook(r)
		sessions := len(b.Boss.Sessions)
		if sessions > 2 {
			continue
		}
		q := asks(api.ClubWorn, r.Intn(25))
		yes, _ := answered(t, b, q)
		found := false
		for l := range lists(2*sessions, -1, 4) {
			var plan []api.ButtTurn
			for i := 0; i < len(l); i += 2 {
				plan = append(plan, api.ButtTurn{Layer: l[i], Turn: l[i+1]})
			}
			worst, f := butt.Worst(b.Boss, plan)
			is := proved(t, b, q, true, l)
			if is != (f == ok && worst.Max <= q.A) {
				t.Fatal(b.Boss, q, l, is)
			}
			found = found || is
		}
		if found != yes {
			t.Fatal(b.Boss, q, yes, found)
		}
	}
}

// P10.4, P10.8: of all lists of results those prove who has the gold by which alone it is certain.
func TestProvesAllResults(t *testing.T) {
	r := rand.New(rand.NewSource(1023))
	yeses := 0
	for range 300 {
		b := randomBook(r)
		all := len(b.Bracket.Results)
		if fits, _ := bracket.Fits(b.Bracket); !fits || all > 5 {
			continue
		}
		seed := someSeed(r, b)
		q := asks(api.ClubGold, seed)
		yes, _ := answered(t, b, q)
		found := false
		for bits := range 1 << all {
			var l []int
			part := plain(b.Bracket)
			part.Results = nil
			for i := range all {
				if bits&(1<<i) != 0 {
					l = append(l, i)
					part.Results = append(part.Results, b.Bracket.Results[i])
				}
			}
			medals, _ := bracket.Medals(part)
			is := proved(t, b, q, true, l)
			if is != (seed >= 0 && medals.Gold == seed) || proved(t, b, q, false, l) {
				t.Fatal(b.Bracket, q, l, is)
			}
			found = found || is
			if slices.Reverse(l); len(l) > 1 && proved(t, b, q, true, l) {
				t.Fatal(b.Bracket, q, l)
			}
		}
		if found != yes {
			t.Fatal(b.Bracket, q, yes, found)
		}
		if yes {
			yeses++
		}
	}
	if yeses < 20 {
		t.Error(yeses)
	}
}

// areSets says whether a list is so many sets at least.
func areSets(b api.ClubBook, many int, l []int) bool {
	each := b.Stock.Rule.Many
	seen := make(map[int]bool)
	for len(l) >= each {
		match, f := arrow.Match(b.Stock, l[:each])
		if f != ok || match != api.Yes {
			return false
		}
		for _, shaft := range l[:each] {
			if seen[shaft] {
				return false
			}
			seen[shaft] = true
		}
		l = l[each:]
		many--
	}
	return len(l) == 0 && many <= 0
}

// P10.4, P10.8, P4: of all lists of shafts those prove that there are so many sets that are as many; one of them exists just if Ask says so.
func TestProvesAllSets(t *testing.T) {
	r := rand.New(rand.NewSource(1024))
	yeses := 0
	for range 200 {
		b := randomBook(r)
		shafts := len(b.Stock.Shafts)
		if shafts > 4 {
			continue
		}
		b.Stock.Rule = api.ArrowRule{Spine: between(r, 3, 8), Length: 1, Weight: 3, Many: between(r, 2, 3)}
		q := asks(api.ClubSets, between(r, 0, 2))
		yes, _ := answered(t, b, q)
		found := false
		for length := range shafts + 1 {
			for l := range lists(length, 0, max(shafts-1, 0)) {
				is := proved(t, b, q, true, l)
				if is != areSets(b, q.A, l) {
					t.Fatal(b.Stock, q, l, is)
				}
				found = found || is
			}
		}
		if found != yes {
			t.Fatal(b.Stock, q, yes, found)
		}
		if yes && q.A > 0 {
			yeses++
		}
	}
	if yeses < 5 {
		t.Error(yeses)
	}
}

// P10.4, P10.8: runs prove that a plan is not safe just if they lead to a dangerous state.
func TestProvesRuns(t *testing.T) {
	r := rand.New(rand.NewSource(1025))
	q := asks(api.ClubRisk)
	dangers := 0
	for range 400 {
		b := randomBook(r)
		s, _ := line.Start(b.Plan)
		var run []api.LineMove
		for range 30 {
			moves, _ := line.Moves(b.Plan, s)
			if len(moves) == 0 {
				break
			}
			run = append(run, pick(r, moves))
			s, _ = line.Step(b.Plan, s, run[len(run)-1])
			_, _, is, _ := line.Danger(b.Plan, s)
			if proved(t, b, q, true, flat(run)) != is {
				t.Fatal(b.Plan, run, is)
			}
			if is {
				dangers++
			}
		}
		if len(run) == 0 {
			continue
		}
		// A run with one number that is changed is right if its moves are.
		l := flat(run)
		l[r.Intn(len(l))] = between(r, -1, 8)
		if proved(t, b, q, true, l) != leadsToDanger(b, l) {
			t.Fatal(b.Plan, l)
		}
	}
	if dangers < 20 {
		t.Error(dangers)
	}
}

// leadsToDanger says whether a list is that of a run that leads to a dangerous state.
func leadsToDanger(b api.ClubBook, l []int) bool {
	s, _ := line.Start(b.Plan)
	for i := 0; i+3 < len(l); i += 4 {
		moves, _ := line.Moves(b.Plan, s)
		k := slices.IndexFunc(moves, func(m api.LineMove) bool { return slices.Equal(flat([]api.LineMove{m}), l[i:i+4]) })
		if k < 0 {
			return false
		}
		s, _ = line.Step(b.Plan, s, moves[k])
	}
	_, _, is, _ := line.Danger(b.Plan, s)
	return is
}

// hasProof says whether there are proofs of an answer to a question.
func hasProof(kind api.ClubQuestion, yes bool) bool {
	return kind == api.ClubSeat || yes && kind != api.ClubRecord && kind != api.ClubFirst
}

// P10.8: what Ask returns is proved if there are proofs, an answer that is proved is what Ask says, and the contrary of it is not.
func TestProvesWhatAskSays(t *testing.T) {
	r := rand.New(rand.NewSource(1026))
	for range 2000 {
		b := randomBook(r)
		q := randomAsk(r, b)
		yes, l, f := club.Ask(b, q)
		if f != ok {
			continue
		}
		if proved(t, b, q, yes, l) != hasProof(q.Kind, yes) || proved(t, b, q, !yes, l) {
			t.Fatal(b, q, yes, l)
		}
		for range 5 {
			other := slices.Clone(l)
			for range r.Intn(3) {
				i := r.Intn(len(other) + 1)
				other = slices.Insert(other[:i:i], 0, between(r, -1, 6))
			}
			if proved(t, b, q, !yes, other) {
				t.Fatal(b, q, yes, other)
			}
		}
	}
}
