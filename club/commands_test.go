package club_test

import (
	"math"
	"math/rand"
	"slices"
	"strings"
	"testing"

	"nock/api"
	"nock/club"
)

// hasOf says what commands of a kind have: a letter for each of Name, A, B, C, List, More, X and Y.
var hasOf = []string{"NA", "N", "ABCLM", "NAX", "ABL", "AL", "AXY", "L", "NA", "L", "ABX", "AB", "A", "A"}

// allHas are the letters of all that commands can have.
const allHas = "NABCLMXY"

// set gives a command something else than 0, or an empty list.
func set(c api.ClubCommand, what rune, n int) api.ClubCommand {
	switch what {
	case 'N':
		c.Name = "ann"
	case 'A':
		c.A = n
	case 'B':
		c.B = n
	case 'C':
		c.C = n
	case 'L':
		c.List = append(slices.Clone(c.List), n, n)
	case 'M':
		c.More = append(slices.Clone(c.More), n, n)
	case 'X':
		c.X = span(n, n)
	case 'Y':
		c.Y = span(n, n)
	}
	return c
}

// wordsOf returns the least and the greatest A for which there is a word, if those of a kind have words.
func wordsOf(kind api.ClubKind) (words api.Span, is bool) {
	switch kind {
	case api.ClubMeasure, api.ClubGo:
		return span(0, 2), true
	case api.ClubLearn:
		return span(1, 3), true
	}
	return api.Span{}, false
}

// fullCommand returns a command of a kind that has all it can have.
func fullCommand(kind api.ClubKind) api.ClubCommand {
	c := api.ClubCommand{Kind: kind}
	for _, what := range hasOf[kind] {
		c = set(c, what, 1)
	}
	return c
}

// P10.1: a command has no foul within its limits.
func TestCheckCommandWithin(t *testing.T) {
	for kind, has := range hasOf {
		kind := api.ClubKind(kind)
		c := fullCommand(kind)
		if f := club.CheckCommand(c); f != api.Fair {
			t.Error(c, f)
		}
		words, is := wordsOf(kind)
		for _, what := range has {
			for _, n := range list(-999999999, -1, 0, 999999999, -1000000000, 1000000000, math.MinInt, math.MaxInt) {
				want := api.Fair
				if what != 'N' && (n < -999999999 || n > 999999999) || what == 'A' && is && (n < words.Min || n > words.Max) {
					want = api.OffLimits
				}
				if f := club.CheckCommand(set(c, what, n)); f != want {
					t.Error(c, string(what), n, f)
				}
			}
		}
	}
}

// P10.1: the words of A.
func TestCheckCommandWords(t *testing.T) {
	for n := -2; n <= 5; n++ {
		isThree, isFact := n >= 0 && n <= 2, n >= 1 && n <= 3
		for _, x := range []struct {
			c  api.ClubCommand
			is bool
		}{{measure("a", n, only(0)), isThree}, {goes("a", n), isThree}, {learn(n, 0, only(0)), isFact}, {shoot("a", n), true}, {gone(n, n), true}} {
			if f := club.CheckCommand(x.c); (f == api.Fair) != x.is || f != api.Fair && f != api.OffLimits {
				t.Error(x.c, f)
			}
		}
	}
}

// P10.1: both ends of spans, and each element of lists, have limits.
func TestCheckCommandEnds(t *testing.T) {
	const most = 999999999
	for _, n := range list(-most-1, most+1) {
		for _, c := range commands(
			measure("a", 0, span(n, 0)), measure("a", 0, span(0, n)), hole(0, span(n, 0), only(0)), hole(0, span(0, n), only(0)), hole(0, only(0), span(n, 0)), hole(0, only(0), span(0, n)),
			learn(1, 0, span(n, 0)), learn(1, 0, span(0, n)), look(0, 0, n, 0), look(0, 0, 0, n), tell(0, 1, 2, n), give(n), delay(0, n, 0), result(0, 0, 0, list(0, n), nil), result(0, 0, 0, list(n, 0), nil), result(0, 0, 0, nil, list(0, n)), result(0, 0, 0, nil, list(n, 0))) {
			if f := club.CheckCommand(c); f != api.OffLimits {
				t.Error(c, f)
			}
		}
	}
	for _, c := range commands(measure("a", 0, span(most, -most)), hole(0, span(1, -1), span(-most, most)), learn(1, -most, span(-most, most)), give(-most, most), delay(most), look(-1, -1), tell(-1), result(-1, -1, -1, nil, nil)) {
		if f := club.CheckCommand(c); f != api.Fair {
			t.Error(c, f)
		}
	}
}

// P10.1: what a kind does not have must be zero or empty.
func TestCheckCommandRest(t *testing.T) {
	for kind, has := range hasOf {
		for _, what := range allHas {
			if strings.ContainsRune(has, what) {
				continue
			}
			for _, n := range list(1, -1, math.MaxInt) {
				if f := club.CheckCommand(set(fullCommand(api.ClubKind(kind)), what, n)); f != api.OffLimits {
					t.Error(kind, string(what), n, f)
				}
			}
		}
	}
	for _, c := range commands(
		api.ClubCommand{Kind: api.ClubGive, Name: "Ann"}, api.ClubCommand{Kind: api.ClubGive, Name: "\xff"}, api.ClubCommand{Kind: api.ClubBack, X: span(0, 1)}, api.ClubCommand{Kind: api.ClubBack, X: span(1, 0)},
		api.ClubCommand{Kind: api.ClubBack, Y: span(0, 1)}, api.ClubCommand{Kind: api.ClubAgain, Y: span(-1, 0)}, api.ClubCommand{Kind: api.ClubGive, More: list(0)}, api.ClubCommand{Kind: api.ClubBack, List: list(0)}) {
		if f := club.CheckCommand(c); f != api.OffLimits {
			t.Error(c, f)
		}
	}
}

// P10.1: kinds that there are not.
func TestCheckCommandKinds(t *testing.T) {
	for _, kind := range list(-1, 14, 15, math.MinInt, math.MaxInt) {
		for _, c := range commands(api.ClubCommand{Kind: api.ClubKind(kind)}, api.ClubCommand{Kind: api.ClubKind(kind), Name: "A", List: make([]int, 25)}) {
			if f := club.CheckCommand(c); f != api.OffLimits {
				t.Error(c, f)
			}
		}
	}
}

// P10.1: a command that has a Name must have one.
func TestCheckCommandNames(t *testing.T) {
	for name, want := range map[string]api.Foul{
		"a": api.Fair, "z9": api.Fair, "abcdefghij01": api.Fair, "shoot": api.Fair, "": api.BadName, "A": api.BadName, "1a": api.BadName, "a-": api.BadName, "a b": api.BadName, "a\n": api.BadName, "ä": api.BadName, "abcdefghij012": api.BadName, "aB": api.BadName, "a\xff": api.BadName, strings.Repeat("a", 1<<17): api.BadName,
	} {
		for _, c := range commands(shoot(name, 9), withdraw(name), measure(name, 0, only(0)), goes(name, 0)) {
			if f := club.CheckCommand(c); f != want {
				t.Error(c.Kind, f)
			}
			// Its foul comes before that of a count, and that before those of numbers.
			c.C, c.List = 1, make([]int, 25)
			if f := club.CheckCommand(c); want == api.BadName && f != api.BadName || want == api.Fair && f != api.BadCount {
				t.Error(c.Kind, f)
			}
		}
	}
}

// P10.1: how many elements lists may have.
func TestCheckCommandCounts(t *testing.T) {
	for many := range 28 {
		l := make([]int, many)
		for _, x := range []struct {
			c   api.ClubCommand
			odd api.Foul
		}{
			{give(l...), api.Fair}, {delay(l...), api.Fair}, {look(0, 0, l...), api.Fair}, {tell(0, l...), api.Fair}, {result(0, 0, 0, l, nil), api.BadCount}, {result(0, 0, 0, nil, l), api.BadCount}, {result(0, 0, 0, list(1, 2), l), api.BadCount},
		} {
			want := api.Fair
			if many > 24 {
				want = api.BadCount
			} else if many%2 == 1 {
				want = x.odd
			}
			if f := club.CheckCommand(x.c); f != want {
				t.Error(many, x.c.Kind, f)
			}
			x.c.A, x.c.X = math.MaxInt, span(1, 1)
			if f := club.CheckCommand(x.c); want == api.BadCount && f != want || want == api.Fair && f != api.OffLimits {
				t.Error(many, x.c.Kind, f)
			}
		}
		// A list that a kind does not have counts, too.
		want := api.OffLimits
		if many == 0 {
			want = api.Fair
		} else if many > 24 {
			want = api.BadCount
		}
		for _, c := range commands(api.ClubCommand{Kind: api.ClubShoot, Name: "a", List: l}, api.ClubCommand{Kind: api.ClubBack, More: l}, api.ClubCommand{Kind: api.ClubGive, More: l}) {
			if f := club.CheckCommand(c); f != want {
				t.Error(many, c.Kind, f)
			}
		}
	}
}

// commandFoul is the foul of a command, as the chapter says it.
func commandFoul(c api.ClubCommand) api.Foul {
	if c.Kind < 0 || int(c.Kind) >= len(hasOf) {
		return api.OffLimits
	}
	has := hasOf[c.Kind]
	if strings.Contains(has, "N") && !isNamed(c.Name) {
		return api.BadName
	}
	for _, l := range [][]int{c.List, c.More} {
		if len(l) > 24 || c.Kind == api.ClubResult && len(l)%2 == 1 {
			return api.BadCount
		}
	}
	for _, n := range slices.Concat(list(c.A, c.B, c.C, c.X.Min, c.X.Max, c.Y.Min, c.Y.Max), c.List, c.More) {
		if n < -999999999 || n > 999999999 {
			return api.OffLimits
		}
	}
	if words, is := wordsOf(c.Kind); is && (c.A < words.Min || c.A > words.Max) {
		return api.OffLimits
	}
	for what, is := range map[string]bool{"N": c.Name != "", "A": c.A != 0, "B": c.B != 0, "C": c.C != 0, "L": len(c.List) > 0, "M": len(c.More) > 0, "X": c.X != only(0), "Y": c.Y != only(0)} {
		if is && !strings.Contains(has, what) {
			return api.OffLimits
		}
	}
	return api.Fair
}

// isNamed says whether a string is a name.
func isNamed(name string) bool {
	const letters, digits = "abcdefghijklmnopqrstuvwxyz", "0123456789"
	return name != "" && len(name) <= 12 && strings.Trim(name, letters+digits) == "" && strings.IndexByte(letters, name[0]) >= 0
}

// P10.1: the fouls of arbitrary commands.
func TestCheckAnyCommand(t *testing.T) {
	r := rand.New(rand.NewSource(1002))
	many := make(map[api.Foul]int)
	for range 20000 {
		c := anyCommand(r)
		f := club.CheckCommand(c)
		if f != commandFoul(c) {
			t.Fatal(c, f, commandFoul(c))
		}
		many[f]++
	}
	for _, f := range fouls(api.Fair, api.BadName, api.BadCount, api.OffLimits) {
		if many[f] < 500 {
			t.Error(f, many[f])
		}
	}
}
