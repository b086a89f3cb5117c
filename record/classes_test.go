package record_test

import (
	"math"
	"math/rand"
	"testing"

	"nock/api"
	"nock/record"
)

// P9.4: who has the class of the chapter's book, on days when something changes.
func TestClass(t *testing.T) {
	same := func(b *api.RecordBook) {}
	twice := func(b *api.RecordBook) { b.Claims[0].Archer = "ben" }
	sooner := func(b *api.RecordBook) { b.Claims[0].Papers = only(105) }
	judged := func(b *api.RecordBook) { b.Events[1].Judges = only(3) }
	once := func(b *api.RecordBook) { b.Classes[0].Times = 1 }
	for i, x := range []struct {
		changes []change
		day     int
		archer  string
		want    api.Sure
		short   api.Span
	}{
		{[]change{same}, 250, "ben", no, span(1, 2)}, {[]change{same}, 250, "ann", no, span(1, 2)}, {[]change{same}, 350, "cem", no, only(2)}, {[]change{same}, 250, "eve", no, only(2)},
		{[]change{twice}, 250, "ben", maybe, span(0, 2)}, {[]change{twice}, 251, "ben", no, span(1, 2)}, {[]change{twice}, 200, "ben", maybe, span(0, 2)}, {[]change{twice}, 199, "ben", no, span(1, 2)}, {[]change{twice}, 99, "ben", no, only(2)},
		{[]change{twice, sooner}, 250, "ben", maybe, span(0, 1)}, {[]change{twice, sooner, judged}, 250, "ben", yes, only(0)}, {[]change{twice, sooner, judged}, 251, "ben", no, only(1)}, {[]change{twice, judged}, 250, "ben", maybe, span(0, 1)},
		{[]change{twice, sooner, judged}, 350, "ben", no, only(1)}, {[]change{twice, sooner, judged}, 351, "ben", no, only(2)},
		{[]change{once, judged}, 350, "ben", yes, only(0)}, {[]change{once, judged}, 351, "ben", no, only(1)}, {[]change{once, judged}, 200, "ben", yes, only(0)}, {[]change{once}, 200, "ben", maybe, span(0, 1)},
		// What the class says of scores and events.
		{[]change{once, judged, func(b *api.RecordBook) { b.Classes[0].Score = 680 }}, 300, "ben", yes, only(0)},
		{[]change{once, judged, func(b *api.RecordBook) { b.Classes[0].Score = 681 }}, 300, "ben", no, only(1)},
		{[]change{once, judged, func(b *api.RecordBook) { b.Classes[0].Star = 3 }}, 300, "ben", no, only(1)},
		{[]change{once, sooner, func(b *api.RecordBook) { b.Classes[0].Star = 3 }}, 200, "ann", yes, only(0)},
		{[]change{once, sooner, func(b *api.RecordBook) { b.Classes[0].Star = 4 }}, 200, "ann", no, only(1)},
		{[]change{once, sooner, func(b *api.RecordBook) { b.Classes[0].Within = 0 }}, 100, "ann", yes, only(0)},
		{[]change{once, sooner, func(b *api.RecordBook) { b.Classes[0].Within = 0 }}, 101, "ann", no, only(1)},
		{[]change{once, sooner, func(b *api.RecordBook) { b.Classes[0].Within = 999 }}, 1099, "ann", yes, only(0)},
		// A result is a claim that stands: the star of its kind matters too.
		{[]change{once, func(b *api.RecordBook) { b.Classes[0].Star = 1 }}, 300, "cem", no, only(1)},
		{[]change{once, func(b *api.RecordBook) { b.Classes[0].Star, b.Kinds[0].Star = 1, 1 }}, 301, "cem", yes, only(0)},
		// A claim that is gone is no result.
		{[]change{once, judged, func(b *api.RecordBook) { b.Classes[0].Within = 999 }}, 399, "dia", yes, only(0)},
		{[]change{once, judged, func(b *api.RecordBook) { b.Classes[0].Within = 999 }}, 400, "dia", no, only(1)},
		// Two claims at one event are two results.
		{[]change{judged, func(b *api.RecordBook) { b.Claims[3].Archer = "ben" }}, 250, "ben", yes, only(0)},
		{[]change{func(b *api.RecordBook) { b.Claims[3].Archer = "ben" }}, 250, "ben", maybe, span(0, 2)},
		{[]change{func(b *api.RecordBook) { b.Claims[3].Archer, b.Classes[0].Times = "ben", 4 }}, 250, "ben", no, span(2, 4)},
	} {
		b := withBook(x.changes...)
		if s := classOf(t, b, 0, x.day, x.archer); s != x.want {
			t.Error(i, s)
		}
		if s := shortOf(t, b, 0, x.day, x.archer); s != x.short {
			t.Error(i, s)
		}
	}
}

// twoKinds returns a book of two claims at one event, of two kinds whose fields differ.
func twoKinds(one, other, slack int, in api.Span) api.RecordBook {
	return api.RecordBook{
		Kinds:   []api.RecordKind{kind("p", 0, 0, one, slack, 5), kind("q", 0, 0, other, slack, 5)},
		Events:  []api.RecordEvent{event("e", 1, 0, only(0), in)},
		Claims:  []api.RecordClaim{claim("ann", 0, 0, 9, only(1), -1), claim("ann", 0, 1, 9, only(1), -1)},
		Classes: []api.RecordClass{class("c", 0, 0, 2, 0), class("d", 0, 0, 1, 0)},
	}
}

// P9.4: claims of several kinds at one event have its length and its judges in common.
func TestClassOfTwoKinds(t *testing.T) {
	for i, x := range []struct {
		b              api.RecordBook
		both, any      api.Sure
		shortOf, noOne api.Span
	}{
		{twoKinds(6900, 7100, 10, span(6900, 7100)), no, maybe, span(1, 2), span(0, 1)},
		{twoKinds(6900, 7100, 10, span(6890, 6910)), no, yes, only(1), only(0)},
		{twoKinds(6950, 7050, 50, span(6900, 7100)), maybe, yes, span(0, 1), only(0)},
		{twoKinds(6950, 7051, 50, span(6900, 7101)), no, yes, only(1), only(0)},
		{twoKinds(6950, 7052, 50, span(6900, 7102)), no, maybe, span(1, 2), span(0, 1)},
		{twoKinds(6950, 7050, 50, span(6899, 7100)), maybe, maybe, span(0, 2), span(0, 1)},
		{twoKinds(6950, 7050, 50, only(7000)), yes, yes, only(0), only(0)},
		{twoKinds(6950, 7050, 50, span(7000, 7001)), maybe, yes, span(0, 1), only(0)},
		{twoKinds(7000, 7000, 50, span(7050, 7051)), maybe, maybe, span(0, 2), span(0, 1)},
	} {
		if s := classOf(t, x.b, 0, 1, "ann"); s != x.both {
			t.Error(i, s)
		}
		if s := classOf(t, x.b, 1, 1, "ann"); s != x.any {
			t.Error(i, s)
		}
		if s := shortOf(t, x.b, 0, 1, "ann"); s != x.shortOf {
			t.Error(i, s)
		}
		if s := shortOf(t, x.b, 1, 1, "ann"); s != x.noOne {
			t.Error(i, s)
		}
	}
	// With enough judges for the second kind there are enough for the first one.
	b := twoKinds(7000, 7000, 0, only(7000))
	b.Kinds[0].Judges, b.Kinds[1].Judges, b.Events[0].Judges = 2, 4, span(2, 5)
	if one, two := shortOf(t, b, 1, 1, "ann"), shortOf(t, b, 0, 1, "ann"); one != only(0) || two != span(0, 1) {
		t.Error(one, two)
	}
}

// P9.4: the fouls of questions about a class.
func TestClassFouls(t *testing.T) {
	for i, x := range []struct {
		change     change
		class, day int
		archer     string
		want       api.Foul
	}{
		{func(b *api.RecordBook) {}, 0, 0, "a", api.Fair}, {func(b *api.RecordBook) {}, 0, 9999, "abcdefghij01", api.Fair},
		{func(b *api.RecordBook) {}, 1, 0, "a", api.Unknown}, {func(b *api.RecordBook) {}, -1, 0, "a", api.Unknown}, {func(b *api.RecordBook) {}, math.MaxInt, -1, "", api.Unknown}, {func(b *api.RecordBook) {}, math.MinInt, -1, "", api.Unknown}, {func(b *api.RecordBook) { b.Classes = nil }, 0, 0, "a", api.Unknown},
		{func(b *api.RecordBook) {}, 0, -1, "a", api.OffLimits}, {func(b *api.RecordBook) {}, 0, 10000, "a", api.OffLimits}, {func(b *api.RecordBook) {}, 0, math.MinInt, "", api.OffLimits}, {func(b *api.RecordBook) {}, 0, math.MaxInt, "A", api.OffLimits},
		{func(b *api.RecordBook) {}, 0, 0, "", api.BadName}, {func(b *api.RecordBook) {}, 0, 0, "Ann", api.BadName}, {func(b *api.RecordBook) {}, 0, 0, "1", api.BadName}, {func(b *api.RecordBook) {}, 0, 0, "abcdefghij012", api.BadName},
		{func(b *api.RecordBook) { b.Table = list(-1) }, 5, -1, "", api.OffLimits}, {func(b *api.RecordBook) { b.Classes[0].Name = "" }, 5, -1, "", api.BadName},
	} {
		b := withBook(x.change)
		s, f := record.Class(b, x.class, x.day, x.archer)
		least, most, g := record.Short(b, x.class, x.day, x.archer)
		if f != x.want || g != x.want || f != api.Fair && (s != maybe || least != 0 || most != 0) {
			t.Error(i, s, f, least, most, g)
		}
	}
}

// classDay returns a day on which results of an event may count for a class, or on which they may be too old.
func classDay(r *rand.Rand, b api.RecordBook, class int) int {
	return min(pick(r, b.Events).Day+r.Intn(b.Classes[class].Within+2), api.MaxRecordDay)
}

// P9.4, P9.6, P2: an archer has a class, and is short of results, as it is in all truths.
func TestClassInAllTruths(t *testing.T) {
	r := rand.New(rand.NewSource(109))
	var seen [3]int
	for range 1500 {
		b := openRandomBook(r, pick(r, []scale{small, great}), 2000)
		if len(b.Classes) == 0 {
			continue
		}
		i := r.Intn(len(b.Classes))
		day := classDay(r, b, i)
		times, has, many := b.Classes[i].Times, 0, 0
		short := span(9, 0)
		for x := range truths(b) {
			n := max(0, times-resultsIn(b, x, i, day, "ann"))
			short = span(min(short.Min, n), max(short.Max, n))
			many++
			if n == 0 {
				has++
			}
		}
		if s := classOf(t, b, i, day, "ann"); s != sureOf(has, many) {
			t.Fatal(b, i, day, s)
		}
		if s := shortOf(t, b, i, day, "ann"); s != short {
			t.Fatal(b, i, day, s, short)
		}
		seen[sureOf(has, many)]++
	}
	if seen[yes] < 20 || seen[maybe] < 50 || seen[no] < 100 {
		t.Error("too few of a kind", seen)
	}
}

// better says whether something that was sure is so still, and what was possible still is.
func better(before, after api.Sure) bool {
	return before == after || before == no || before == maybe && after == yes
}

// P9.10: a lower score, fewer results, a lower star and more days never take a class away.
func TestEasierClasses(t *testing.T) {
	r := rand.New(rand.NewSource(110))
	easier := 0
	for range 2000 {
		b := openRandomBook(r, pick(r, []scale{small, great}), math.MaxInt)
		if len(b.Classes) == 0 {
			continue
		}
		o := copyBook(b)
		i := r.Intn(len(b.Classes))
		day := classDay(r, b, i)
		x := &o.Classes[i]
		switch r.Intn(4) {
		case 0:
			x.Score = r.Intn(x.Score + 1)
		case 1:
			x.Times = between(r, 1, x.Times)
		case 2:
			x.Within = between(r, x.Within, 999)
		case 3:
			x.Star = r.Intn(x.Star + 1)
		}
		was, is := classOf(t, b, i, day, "ann"), classOf(t, o, i, day, "ann")
		before, after := shortOf(t, b, i, day, "ann"), shortOf(t, o, i, day, "ann")
		if !better(was, is) || after.Min > before.Min || after.Max > before.Max {
			t.Fatal(b, o, i, day, was, is, before, after)
		}
		if before != after {
			easier++
		}
	}
	if easier < 50 {
		t.Error("too few are easier", easier)
	}
}

// P9.4: the handicaps of the chapter's table, and fouls.
func TestHandicap(t *testing.T) {
	same := func(b *api.RecordBook) {}
	for _, x := range []struct {
		change      change
		score, want int
		f           api.Foul
	}{
		{same, 0, 3, api.Fair}, {same, 499, 3, api.Fair}, {same, 500, 2, api.Fair}, {same, 501, 2, api.Fair}, {same, 599, 2, api.Fair}, {same, 600, 1, api.Fair}, {same, 699, 1, api.Fair}, {same, 700, 0, api.Fair}, {same, 1440, 0, api.Fair},
		{func(b *api.RecordBook) { b.Table = nil }, 0, 0, api.Fair}, {func(b *api.RecordBook) { b.Table = list(0, 1, 2, 3, 4, 1440) }, 0, 5, api.Fair}, {func(b *api.RecordBook) { b.Table = list(1440) }, 1439, 1, api.Fair},
		{same, 1441, 0, api.OffLimits}, {same, -1, 0, api.OffLimits}, {same, math.MinInt, 0, api.OffLimits}, {same, math.MaxInt, 0, api.OffLimits},
		{func(b *api.RecordBook) { b.Table[1] = 500 }, -1, 0, api.OutOfOrder}, {func(b *api.RecordBook) { b.Table[1] = 500 }, 5, 0, api.OutOfOrder},
	} {
		if n, f := record.Handicap(withBook(x.change), x.score); n != x.want || f != x.f {
			t.Error(x.score, n, f)
		}
	}
}

// P9.10: a higher score never has a greater handicap.
func TestHigherScores(t *testing.T) {
	r := rand.New(rand.NewSource(111))
	for range 20 {
		b := randomBook(r, small)
		last := len(b.Table)
		for score := range api.MaxRecordScore + 1 {
			n := handicapOf(t, b, score)
			if n > last || n < 0 {
				t.Fatal(b, score, n, last)
			}
			last = n
		}
		if last != 0 {
			t.Fatal(b, last)
		}
	}
}
