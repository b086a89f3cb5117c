package bracket_test

import (
	"math/rand"
	"slices"
	"testing"

	"nock/api"
	"nock/bracket"
)

// shuffled returns a bracket whose results are told in another order.
func shuffled(r *rand.Rand, b api.BracketBook) api.BracketBook {
	o := copyBook(b)
	r.Shuffle(len(o.Results), func(i, j int) { o.Results[i], o.Results[j] = o.Results[j], o.Results[i] })
	return o
}

// P5.7: results of what really happens fit, in whatever order, and however often they are told; what is said of it is so.
func TestTrueResults(t *testing.T) {
	r := rand.New(rand.NewSource(51))
	for range 600 {
		b, x := randomTrue(r, 8)
		seeds := len(b.Seeds)
		if !fits(t, b) || len(clashOf(t, b)) > 0 || !slices.Equal(trustOf(t, b), upTo(len(b.Results))) {
			t.Fatal("true results that do not fit", b, x)
		}
		for _, match := range shotIn(seeds) {
			one, two := sidesOf(t, b, match)
			if !slices.Contains(winnersOf(t, b, match), x[match].winner) || !slices.Contains(one, x[match].one) || !slices.Contains(two, x[match].two) {
				t.Fatal(b, x, match)
			}
		}
		m, really := medalsOf(t, b), wantedMedals(seeds, []truth{x})
		if m.Gold != nobody && m.Gold != really.Gold || m.Silver != nobody && m.Silver != really.Silver || m.Bronze != nobody && m.Bronze != really.Bronze {
			t.Fatal(b, x, m, really)
		}
	}
}

// P5.7: with a result of each match that is shot nothing is open, and all is certain.
func TestAllResults(t *testing.T) {
	r := rand.New(rand.NewSource(52))
	for range 300 {
		b, x := randomTrue(r, 0)
		seeds := len(b.Seeds)
		for _, match := range shotIn(seeds) {
			b.Results = append(b.Results, resultOf(r, b.Sets, x, match))
		}
		b = shuffled(r, b)
		if l := openOf(t, b); len(l) > 0 {
			t.Fatal(b, l)
		}
		if m := medalsOf(t, b); m != wantedMedals(seeds, []truth{x}) {
			t.Fatal(b, x, m)
		}
		for _, match := range shotIn(seeds) {
			if l := winnersOf(t, b, match); !slices.Equal(l, list(x[match].winner)) {
				t.Fatal(b, x, l)
			}
		}
	}
}

// isPart says whether all elements of a list are in another one.
func isPart(l, all []int) bool {
	return !slices.ContainsFunc(l, func(x int) bool { return !slices.Contains(all, x) })
}

// keeps says whether what was certain before is so after.
func keeps(before, after int) bool { return before == nobody || before == after }

// P5.8, P3: one more result never adds a winner or a side, nor takes a medal away, nor what is certain of a round.
func TestOneMoreResult(t *testing.T) {
	r := rand.New(rand.NewSource(53))
	fewer, more := 0, 0
	for range 500 {
		b, x := randomTrue(r, 7)
		seeds := len(b.Seeds)
		if r.Intn(2) == 0 {
			// What is told need not have happened, as long as it fits.
			x = pick(r, known(b))
		}
		o, f := bracket.Tell(b, resultOf(r, b.Sets, x, pick(r, shotIn(seeds))))
		fair(t, f)
		for _, match := range shotIn(seeds) {
			a, c := chancesOf(t, b, match), chancesOf(t, o, match)
			if !isPart(c.one, a.one) || !isPart(c.two, a.two) || !isPart(c.wins, a.wins) {
				t.Fatal(b, o, match, a, c)
			}
			if len(c.wins) < len(a.wins) {
				fewer++
			}
		}
		m, n := medalsOf(t, b), medalsOf(t, o)
		if !keeps(m.Gold, n.Gold) || !keeps(m.Silver, n.Silver) || !keeps(m.Bronze, n.Bronze) {
			t.Fatal(b, o, m, n)
		}
		if m != n {
			more++
		}
		for seed := range seeds {
			for round := range roundsBySize[sizeOf(seeds)] {
				if is, then := reaches(t, b, seed, round), reaches(t, o, seed, round); is != api.Maybe && is != then {
					t.Fatal(b, o, seed, round, is, then)
				}
			}
		}
	}
	if fewer < 200 || more < 50 {
		t.Error("too few are news", fewer, more)
	}
}

// P5.8: whoever can win a match that is open, a result of it fits; of one who cannot be in it none does.
func TestOpenResults(t *testing.T) {
	r := rand.New(rand.NewSource(54))
	many := 0
	for range 400 {
		b, _ := randomTrue(r, 7)
		for _, match := range openOf(t, b) {
			one, two := sidesOf(t, b, match)
			for _, winner := range winnersOf(t, b, match) {
				many++
				o, f := bracket.Tell(b, won(b.Sets, told{match, one[0], two[0], winner}))
				if f != api.Fair || !fits(t, o) || !slices.Equal(winnersOf(t, o, match), list(winner)) {
					t.Fatal(b, match, winner, f)
				}
			}
		}
	}
	if many < 500 {
		t.Error("too few are open", many)
	}
}

// P5: in another order of the results the same follows from them; their lists are as long.
func TestAnyOrder(t *testing.T) {
	r := rand.New(rand.NewSource(55))
	for range 600 {
		b := randomBook(r, 8)
		o := shuffled(r, b)
		seeds := len(b.Seeds)
		if fits(t, b) != fits(t, o) || len(clashOf(t, b)) != len(clashOf(t, o)) || len(trustOf(t, b)) != len(trustOf(t, o)) {
			t.Fatal(b, o)
		}
		if !fits(t, b) {
			continue
		}
		for _, match := range shotIn(seeds) {
			if a, c := chancesOf(t, b, match), chancesOf(t, o, match); !a.same(c) {
				t.Fatal(b, o, match, a, c)
			}
		}
		if medalsOf(t, b) != medalsOf(t, o) || !slices.Equal(openOf(t, b), openOf(t, o)) {
			t.Fatal(b, o)
		}
		l, gold := becauseOf(t, b)
		if k, same := becauseOf(t, o); len(k) != len(l) || gold != same {
			t.Fatal(b, o, l, k, gold, same)
		}
	}
}

// P5: names have no order, so that they change nothing but themselves.
func TestOtherNames(t *testing.T) {
	r := rand.New(rand.NewSource(56))
	for range 200 {
		b := randomBook(r, 5)
		o := copyBook(b)
		slices.Reverse(o.Seeds)
		if !slices.Equal(clashOf(t, b), clashOf(t, o)) || !slices.Equal(trustOf(t, b), trustOf(t, o)) {
			t.Fatal(b, o)
		}
		if fits(t, b) && medalsOf(t, b) != medalsOf(t, o) {
			t.Fatal(b, o)
		}
	}
}
