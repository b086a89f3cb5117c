package bracket_test

import (
	"cmp"
	"math/rand"
	"slices"
	"testing"

	"nock/api"
	"nock/bracket"
)

const nobody = -1

func list(numbers ...int) []int { return numbers }

// pairs returns pairs by all their numbers.
func pairs(numbers ...int) []api.BracketPair {
	var all []api.BracketPair
	for i := 0; i < len(numbers); i += 2 {
		all = append(all, api.BracketPair{One: numbers[i], Two: numbers[i+1]})
	}
	return all
}

func medals(gold, silver, bronze int) api.BracketMedals {
	return api.BracketMedals{Gold: gold, Silver: silver, Bronze: bronze}
}

// example is the bracket B of the chapter.
func example() api.BracketBook {
	return api.BracketBook{
		Sets:  5,
		Seeds: []string{"ana", "ben", "cem", "dia", "eva"},
		Results: []api.BracketResult{
			{Match: 6, One: 0, Two: 2, Sets: pairs(28, 27, 26, 26, 25, 28, 29, 28, 27, 26)},
			{Match: 1, One: 3, Two: 4, Sets: pairs(20, 21, 20, 21, 20, 21)},
		},
	}
}

// with returns the example with a change.
func with(change func(b *api.BracketBook)) api.BracketBook {
	b := example()
	change(&b)
	return b
}

// told is a match, its sides, and its winner.
type told struct{ match, one, two, winner int }

// won returns a result in which the winner has won as many sets as it must, and the other one none.
func won(most int, x told) api.BracketResult {
	set := pairs(9, 8)
	if x.winner == x.two {
		set = pairs(8, 9)
	}
	return api.BracketResult{Match: x.match, One: x.one, Two: x.two, Sets: slices.Repeat(set, most/2+1)}
}

// plain returns a bracket of some seeds (a, b, c ..) with three sets at most.
func plain(seeds int, results ...told) api.BracketBook {
	b := api.BracketBook{Sets: 3}
	for i := range seeds {
		b.Seeds = append(b.Seeds, string(rune('a'+i)))
	}
	for _, x := range results {
		b.Results = append(b.Results, won(b.Sets, x))
	}
	return b
}

// great returns a bracket as great as it may be: everything that is told is told at length.
func great() api.BracketBook {
	b := plain(8)
	b.Sets = 5
	for i := range b.Seeds {
		b.Seeds[i] += "bcdefghijk0"
	}
	for match, x := range []told{{0, 0, 7, 0}, {1, 3, 4, 3}, {2, 1, 6, 1}, {3, 2, 5, 2}, {4, 0, 3, 0}, {5, 1, 2, 1}, {6, 0, 1, 0}, {7, 3, 2, 3}} {
		b.Results = append(b.Results, api.BracketResult{Match: match, One: x.one, Two: x.two, Sets: slices.Repeat(pairs(60, 60), 5), Offs: pairs(999, 999, 999, 999, 998, 999)})
	}
	return b
}

func copyResult(r api.BracketResult) api.BracketResult {
	r.Sets, r.Offs = slices.Clone(r.Sets), slices.Clone(r.Offs)
	return r
}

func copyBook(b api.BracketBook) api.BracketBook {
	o := api.BracketBook{Sets: b.Sets, Seeds: slices.Clone(b.Seeds)}
	for _, r := range b.Results {
		o.Results = append(o.Results, copyResult(r))
	}
	return o
}

func sameResult(a, b api.BracketResult) bool {
	return a.Match == b.Match && a.One == b.One && a.Two == b.Two && slices.Equal(a.Sets, b.Sets) && slices.Equal(a.Offs, b.Offs)
}

func sameBook(a, b api.BracketBook) bool {
	return a.Sets == b.Sets && slices.Equal(a.Seeds, b.Seeds) && slices.EqualFunc(a.Results, b.Results, sameResult)
}

// fair stops a test if there is a foul.
func fair(t *testing.T, f api.Foul) {
	t.Helper()
	if f != api.Fair {
		t.Fatal("foul", f)
	}
}

func sidesOf(t *testing.T, b api.BracketBook, match int) (one, two []int) {
	t.Helper()
	one, two, f := bracket.Sides(b, match)
	fair(t, f)
	return one, two
}

func winnersOf(t *testing.T, b api.BracketBook, match int) []int {
	t.Helper()
	l, f := bracket.Winners(b, match)
	fair(t, f)
	return l
}

func reaches(t *testing.T, b api.BracketBook, seed, round int) api.Sure {
	t.Helper()
	s, f := bracket.Reaches(b, seed, round)
	fair(t, f)
	return s
}

func medalsOf(t *testing.T, b api.BracketBook) api.BracketMedals {
	t.Helper()
	m, f := bracket.Medals(b)
	fair(t, f)
	return m
}

func openOf(t *testing.T, b api.BracketBook) []int {
	t.Helper()
	l, f := bracket.Open(b)
	fair(t, f)
	return l
}

func becauseOf(t *testing.T, b api.BracketBook) (results []int, gold int) {
	t.Helper()
	l, gold, f := bracket.Because(b)
	fair(t, f)
	return l, gold
}

func fits(t *testing.T, b api.BracketBook) bool {
	t.Helper()
	is, f := bracket.Fits(b)
	fair(t, f)
	return is
}

func clashOf(t *testing.T, b api.BracketBook) []int {
	t.Helper()
	l, f := bracket.Clash(b)
	fair(t, f)
	return l
}

func trustOf(t *testing.T, b api.BracketBook) []int {
	t.Helper()
	l, f := bracket.Trust(b)
	fair(t, f)
	return l
}

// only returns a bracket with some of its results alone.
func only(b api.BracketBook, results []int) api.BracketBook {
	o := copyBook(b)
	o.Results = nil
	for _, i := range results {
		o.Results = append(o.Results, b.Results[i])
	}
	return o
}

// without returns a list without the element with an index.
func without(l []int, i int) []int { return slices.Delete(slices.Clone(l), i, i+1) }

// What follows finds all of it in another way: by tables of the matches, and by all lists of results.

// slotsBySize are the slots of the chapter, counted as if all of them had seeds.
var slotsBySize = map[int][]int{2: {0, 1}, 4: {0, 3, 1, 2}, 8: {0, 7, 3, 4, 1, 6, 2, 5}}

// feeds are the two matches before each match that comes after the first round, but for the third match.
var feeds = map[int][][2]int{2: nil, 4: {{0, 1}}, 8: {{0, 1}, {2, 3}, {4, 5}}}

// roundsBySize are the matches of each round.
var roundsBySize = map[int][][]int{2: {{0}}, 4: {{0, 1}, {2}}, 8: {{0, 1, 2, 3}, {4, 5}, {6}}}

func sizeOf(seeds int) int {
	for _, size := range list(2, 4, 8) {
		if seeds <= size {
			return size
		}
	}
	return 0
}

// fight is a match in a truth.
type fight struct{ one, two, winner int }

func (f fight) isShot() bool { return f.one != nobody && f.two != nobody }

func (f fight) loser() int { return f.one + f.two - f.winner }

// truth is what happens in each match; those that there are not have no sides.
type truth [8]fight

// shoot has a match shot, or won without a shot.
func shoot(one, two int, second bool) fight {
	if one == nobody || two == nobody {
		return fight{one, two, max(one, two)}
	}
	if second {
		return fight{one, two, two}
	}
	return fight{one, two, one}
}

// play plays all matches of a bracket; the bits of second say in which ones the second side wins.
func play(seeds, second int) truth {
	size := sizeOf(seeds)
	all := truth{}
	for match := range all {
		all[match] = fight{nobody, nobody, nobody}
	}
	at := func(slot int) int {
		if seed := slotsBySize[size][slot]; seed < seeds {
			return seed
		}
		return nobody
	}
	wins := func(match int) bool { return second>>match&1 == 1 }
	for match := range size / 2 {
		all[match] = shoot(at(2*match), at(2*match+1), wins(match))
	}
	for i, from := range feeds[size] {
		match := size/2 + i
		all[match] = shoot(all[from[0]].winner, all[from[1]].winner, wins(match))
	}
	if size > 2 {
		last := feeds[size][len(feeds[size])-1]
		if a, b := all[last[0]], all[last[1]]; a.isShot() && b.isShot() {
			all[size-1] = shoot(a.loser(), b.loser(), wins(size-1))
		}
	}
	return all
}

// truths returns all truths of a bracket of some seeds.
func truths(seeds int) []truth {
	var all []truth
	seen := make(map[truth]bool)
	for second := range 1 << 8 {
		if x := play(seeds, second); !seen[x] {
			seen[x] = true
			all = append(all, x)
		}
	}
	return all
}

// shotIn returns the matches of a bracket of some seeds that are shot.
func shotIn(seeds int) []int {
	var all []int
	for match, x := range play(seeds, 0) {
		if x.isShot() {
			all = append(all, match)
		}
	}
	return all
}

// bronzeOf returns who wins bronze in a truth.
func bronzeOf(seeds int, x truth) int {
	size := sizeOf(seeds)
	switch {
	case size == 2:
		return nobody
	case seeds == 3:
		return x[1].loser()
	}
	return x[size-1].winner
}

// winnerOf returns who wins the match of a result: the shoot-off decides, if there is one.
func winnerOf(r api.BracketResult) int {
	ahead := 0
	for _, set := range r.Sets {
		ahead += cmp.Compare(set.One, set.Two)
	}
	if n := len(r.Offs); n > 0 {
		ahead = cmp.Compare(r.Offs[n-1].Two, r.Offs[n-1].One)
	}
	if ahead > 0 {
		return r.One
	}
	return r.Two
}

func agrees(x truth, r api.BracketResult) bool {
	return x[r.Match] == fight{r.One, r.Two, winnerOf(r)}
}

// agreeing returns the truths that agree with some of the results.
func agreeing(b api.BracketBook, results []int) []truth {
	var some []truth
	for _, x := range truths(len(b.Seeds)) {
		if !slices.ContainsFunc(results, func(i int) bool { return !agrees(x, b.Results[i]) }) {
			some = append(some, x)
		}
	}
	return some
}

// upTo returns the numbers below n.
func upTo(n int) []int {
	var all []int
	for i := range n {
		all = append(all, i)
	}
	return all
}

// known returns the truths that agree with all results.
func known(b api.BracketBook) []truth { return agreeing(b, upTo(len(b.Results))) }

// lists returns all lists of numbers below n, the shortest ones first, and of as long ones the least one.
func lists(n int) [][]int {
	all := [][]int{nil}
	for i := range n {
		for _, l := range all {
			all = append(all, append(slices.Clone(l), i))
		}
	}
	slices.SortFunc(all, func(a, b []int) int {
		return cmp.Or(cmp.Compare(len(a), len(b)), slices.Compare(a, b))
	})
	return all
}

// ascending returns what there is of something in some truths, ascending.
func ascending(some []truth, of func(x truth) int) []int {
	var all []int
	for _, x := range some {
		all = append(all, of(x))
	}
	slices.Sort(all)
	return slices.Compact(all)
}

// single returns the only element of a list, or nobody.
func single(l []int) int {
	if len(l) != 1 {
		return nobody
	}
	return l[0]
}

// wantedMedals returns what Medals must return, by some truths.
func wantedMedals(seeds int, some []truth) api.BracketMedals {
	final := sizeOf(seeds) - 2
	return medals(
		single(ascending(some, func(x truth) int { return x[final].winner })),
		single(ascending(some, func(x truth) int { return x[final].loser() })),
		single(ascending(some, func(x truth) int { return bronzeOf(seeds, x) })))
}

// randomMatch shoots a match of most sets at most, of which it is known who wins it.
func randomMatch(r *rand.Rand, most int, second bool) (sets, offs []api.BracketPair) {
	for {
		sets, offs = nil, nil
		var points [2]int
		for len(sets) < most && max(points[0], points[1]) <= most {
			set := api.BracketPair{One: r.Intn(3), Two: r.Intn(3)}
			sets = append(sets, set)
			ahead := cmp.Compare(set.One, set.Two)
			points[0] += 1 + ahead
			points[1] += 1 - ahead
		}
		ahead := cmp.Compare(points[0], points[1])
		for ahead == 0 && len(offs) < api.MaxBracketOffs {
			off := api.BracketPair{One: r.Intn(2), Two: r.Intn(2)}
			offs = append(offs, off)
			ahead = cmp.Compare(off.Two, off.One)
		}
		if ahead != 0 && ahead < 0 == second {
			return sets, offs
		}
	}
}

// resultOf returns a result of a match as it is in a truth.
func resultOf(r *rand.Rand, most int, x truth, match int) api.BracketResult {
	f := x[match]
	sets, offs := randomMatch(r, most, f.winner == f.two)
	return api.BracketResult{Match: match, One: f.one, Two: f.two, Sets: sets, Offs: offs}
}

// pick returns one of some elements.
func pick[T any](r *rand.Rand, all []T) T { return all[r.Intn(len(all))] }

// randomEmpty returns a bracket of which nothing is told.
func randomEmpty(r *rand.Rand) api.BracketBook {
	b := plain(2 + r.Intn(7))
	b.Sets = 1 + r.Intn(5)
	return b
}

// randomBook returns a bracket with at most so many results of one truth, and now and then one of another one.
func randomBook(r *rand.Rand, results int) api.BracketBook {
	b := randomEmpty(r)
	all, shot := truths(len(b.Seeds)), shotIn(len(b.Seeds))
	x := pick(r, all)
	wrong := list(0, 0, 1, 3)[r.Intn(4)]
	for range r.Intn(results + 1) {
		of := x
		if r.Intn(6) < wrong {
			of = pick(r, all)
		}
		b.Results = append(b.Results, resultOf(r, b.Sets, of, pick(r, shot)))
	}
	return b
}

// randomTrue returns a bracket, and what really happens in it; at most so many results are told.
func randomTrue(r *rand.Rand, results int) (api.BracketBook, truth) {
	b := randomEmpty(r)
	x, shot := pick(r, truths(len(b.Seeds))), shotIn(len(b.Seeds))
	for range r.Intn(results + 1) {
		b.Results = append(b.Results, resultOf(r, b.Sets, x, pick(r, shot)))
	}
	return b, x
}
