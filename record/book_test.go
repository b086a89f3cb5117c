package record_test

import (
	"math"
	"slices"
	"testing"

	"nock/api"
	"nock/record"
)

type change = func(b *api.RecordBook)

// checkBooks looks for the foul of each change of the book of the chapter.
func checkBooks(t *testing.T, want api.Foul, changes ...change) {
	t.Helper()
	for i, x := range changes {
		if f := record.CheckBook(withBook(x)); f != want {
			t.Error(i, f)
		}
	}
}

// P9.1: books without fouls, up to the limits.
func TestFairBooks(t *testing.T) {
	checkBooks(t, api.Fair,
		func(b *api.RecordBook) {},
		func(b *api.RecordBook) { *b = greatBook() },
		func(b *api.RecordBook) { *b = openBook() },
		func(b *api.RecordBook) { *b = api.RecordBook{} },
		func(b *api.RecordBook) { b.Claims = nil },
		func(b *api.RecordBook) { b.Claims, b.Kinds = nil, nil },
		func(b *api.RecordBook) { b.Claims, b.Events = nil, nil },
		func(b *api.RecordBook) { b.Classes, b.Table = nil, nil },
		func(b *api.RecordBook) { b.Kinds[0] = api.RecordKind{Name: "a"} },
		func(b *api.RecordBook) { b.Kinds[0] = kind("z9", 5, 9, 99999, 999, 999) },
		func(b *api.RecordBook) { b.Events[1].Name, b.Classes[0].Name, b.Claims[0].Archer = "r", "r", "r" },
		func(b *api.RecordBook) { b.Events[2] = api.RecordEvent{Name: "z"} },
		func(b *api.RecordBook) { b.Events[2] = event("z", 300, 5, span(0, 9), span(0, 99999)) },
		func(b *api.RecordBook) { b.Claims[1] = b.Claims[0] },
		func(b *api.RecordBook) { b.Claims[2].Score = 0 },
		func(b *api.RecordBook) { b.Claims[2].Score = 1440 },
		func(b *api.RecordBook) { b.Claims[2].Papers = span(300, 9999) },
		func(b *api.RecordBook) { b.Claims[2].Gone = 300 },
		func(b *api.RecordBook) { b.Claims[2].Gone = 9999 },
		func(b *api.RecordBook) { b.Classes[0] = api.RecordClass{Name: "a", Times: 1} },
		func(b *api.RecordBook) { b.Classes[0] = class("a", 1440, 5, 4, 999) },
		func(b *api.RecordBook) { b.Table = list(0) },
		func(b *api.RecordBook) { b.Table = list(0, 1, 2, 3, 1439, 1440) })
}

// P9.1: too many of something.
func TestBookCounts(t *testing.T) {
	great := greatBook()
	checkBooks(t, api.BadCount,
		func(b *api.RecordBook) { b.Kinds = make([]api.RecordKind, 4) },
		func(b *api.RecordBook) { b.Kinds = append(great.Kinds, b.Kinds...) },
		func(b *api.RecordBook) { b.Events = make([]api.RecordEvent, 4) },
		func(b *api.RecordBook) { b.Claims = make([]api.RecordClaim, 5) },
		func(b *api.RecordBook) { b.Claims = append(b.Claims, b.Claims[0]) },
		func(b *api.RecordBook) { b.Classes = make([]api.RecordClass, 4) },
		func(b *api.RecordBook) { b.Classes = append(great.Classes, b.Classes...) },
		func(b *api.RecordBook) { b.Table = make([]int, 7) },
		func(b *api.RecordBook) { b.Table = list(0, 1, 2, 3, 4, 5, 6) })
}

// P9.1: strings that are not names, and names that occur twice.
func TestBookNames(t *testing.T) {
	for _, name := range []string{"", "A", "aB", "1", "1a", "a b", "a-", "a\n", "a\x00", "ä", "\xff", "abcdefghij012", "_"} {
		checkBooks(t, api.BadName,
			func(b *api.RecordBook) { b.Kinds[0].Name = name },
			func(b *api.RecordBook) { b.Events[0].Name = name },
			func(b *api.RecordBook) { b.Events[2].Name = name },
			func(b *api.RecordBook) { b.Claims[0].Archer = name },
			func(b *api.RecordBook) { b.Claims[3].Archer = name },
			func(b *api.RecordBook) { b.Classes[0].Name = name })
	}
	for _, name := range []string{"q", "z", "q0", "z9", "abcdefghij01", "kind"} {
		checkBooks(t, api.Fair,
			func(b *api.RecordBook) { b.Kinds[0].Name = name },
			func(b *api.RecordBook) { b.Events[2].Name = name },
			func(b *api.RecordBook) { b.Claims[3].Archer = name },
			func(b *api.RecordBook) { b.Classes[0].Name = name })
	}
	great := greatBook()
	checkBooks(t, api.Twice,
		func(b *api.RecordBook) { b.Kinds = slices.Repeat(b.Kinds, 2) },
		func(b *api.RecordBook) { b.Kinds = append(great.Kinds[:2:2], great.Kinds[0]) },
		func(b *api.RecordBook) { b.Events[1].Name = "a" },
		func(b *api.RecordBook) { b.Events[2].Name = "a" },
		func(b *api.RecordBook) { b.Events[2].Name = "b" },
		func(b *api.RecordBook) { b.Classes = slices.Repeat(b.Classes, 2) },
		func(b *api.RecordBook) { b.Classes = append(great.Classes[:2:2], great.Classes[1]) })
}

// P9.1: numbers that are out of their range by one, or by far.
func TestBookNumbers(t *testing.T) {
	outside := func(least, most int) []int { return list(least-1, most+1, math.MinInt, math.MaxInt) }
	for place, x := range map[string]struct {
		span api.Span
		set  func(b *api.RecordBook, n int)
	}{
		"kind's star":    {span(0, 5), func(b *api.RecordBook, n int) { b.Kinds[0].Star = n }},
		"kind's judges":  {span(0, 9), func(b *api.RecordBook, n int) { b.Kinds[0].Judges = n }},
		"kind's length":  {span(0, 99999), func(b *api.RecordBook, n int) { b.Kinds[0].Length = n }},
		"kind's slack":   {span(0, 999), func(b *api.RecordBook, n int) { b.Kinds[0].Slack = n }},
		"kind's within":  {span(0, 999), func(b *api.RecordBook, n int) { b.Kinds[0].Within = n }},
		"event's star":   {span(0, 5), func(b *api.RecordBook, n int) { b.Events[2].Star = n }},
		"score":          {span(0, 1440), func(b *api.RecordBook, n int) { b.Claims[3].Score = n }},
		"class's score":  {span(0, 1440), func(b *api.RecordBook, n int) { b.Classes[0].Score = n }},
		"class's star":   {span(0, 5), func(b *api.RecordBook, n int) { b.Classes[0].Star = n }},
		"class's times":  {span(1, 4), func(b *api.RecordBook, n int) { b.Classes[0].Times = n }},
		"class's within": {span(0, 999), func(b *api.RecordBook, n int) { b.Classes[0].Within = n }},
		"one in table":   {span(0, 1440), func(b *api.RecordBook, n int) { b.Table = list(n) }},
	} {
		for _, n := range outside(x.span.Min, x.span.Max) {
			if f := record.CheckBook(withBook(func(b *api.RecordBook) { x.set(b, n) })); f != api.OffLimits {
				t.Error(place, n, f)
			}
		}
		for _, n := range list(x.span.Min, x.span.Max) {
			if f := record.CheckBook(withBook(func(b *api.RecordBook) { x.set(b, n) })); f != api.Fair {
				t.Error(place, n, f)
			}
		}
	}
	for _, n := range list(-1, 10000, math.MinInt, math.MaxInt) {
		checkBooks(t, api.OffLimits, func(b *api.RecordBook) { b.Events[0].Day = n }, func(b *api.RecordBook) { b.Claims, b.Events[2].Day = nil, n })
	}
	for _, n := range list(0, 9999) {
		checkBooks(t, api.Fair, func(b *api.RecordBook) { b.Claims, b.Events[2].Day = nil, n })
	}
	for _, n := range list(-1, 1441, math.MinInt, math.MaxInt) {
		checkBooks(t, api.OffLimits, func(b *api.RecordBook) { b.Table[0] = n }, func(b *api.RecordBook) { b.Table[2] = n })
	}
}

// P9.1: what is not a span within its limits.
func TestBookSpans(t *testing.T) {
	for most, sets := range map[int][]func(b *api.RecordBook, x api.Span){
		9:     {func(b *api.RecordBook, x api.Span) { b.Events[0].Judges = x }, func(b *api.RecordBook, x api.Span) { b.Events[2].Judges = x }},
		99999: {func(b *api.RecordBook, x api.Span) { b.Events[0].Length = x }, func(b *api.RecordBook, x api.Span) { b.Events[2].Length = x }},
		9999: {
			func(b *api.RecordBook, x api.Span) { b.Claims[0].Papers, b.Events[0].Day = x, 0 },
			func(b *api.RecordBook, x api.Span) { b.Claims[2].Papers, b.Events[2].Day = x, 0 },
		},
	} {
		for _, set := range sets {
			for _, x := range []api.Span{span(-1, 5), span(5, most+1), span(6, 5), only(-1), only(most + 1), span(math.MinInt, 5), span(5, math.MaxInt), span(math.MaxInt, math.MinInt)} {
				checkBooks(t, api.OffLimits, func(b *api.RecordBook) { set(b, x) })
			}
			for _, x := range []api.Span{only(0), only(most), span(0, most), span(1, most-1)} {
				checkBooks(t, api.Fair, func(b *api.RecordBook) { set(b, x) })
			}
		}
	}
}

// P9.1: fouls of claims and of the table that have to do with other parts.
func TestBookLinks(t *testing.T) {
	for _, n := range list(-1, 3, math.MinInt, math.MaxInt) {
		checkBooks(t, api.Unknown, func(b *api.RecordBook) { b.Claims[0].Event = n }, func(b *api.RecordBook) { b.Claims[3].Event = n })
	}
	for _, n := range list(-1, 1, math.MinInt, math.MaxInt) {
		checkBooks(t, api.Unknown, func(b *api.RecordBook) { b.Claims[0].Kind = n }, func(b *api.RecordBook) { b.Claims[3].Kind = n })
	}
	checkBooks(t, api.Unknown, func(b *api.RecordBook) { b.Events = nil }, func(b *api.RecordBook) { b.Kinds = nil }, func(b *api.RecordBook) { b.Events = b.Events[:2] })
	checkBooks(t, api.OutOfOrder,
		func(b *api.RecordBook) { b.Claims[0].Papers = span(99, 115) },
		func(b *api.RecordBook) { b.Claims[0].Papers = only(99) },
		func(b *api.RecordBook) { b.Claims[3].Papers = span(0, 9999) },
		func(b *api.RecordBook) { b.Claims[0].Gone = 99 },
		func(b *api.RecordBook) { b.Claims[0].Gone = 0 },
		func(b *api.RecordBook) { b.Claims[0].Gone = -2 },
		func(b *api.RecordBook) { b.Claims[3].Gone = math.MinInt },
		func(b *api.RecordBook) { b.Events[1].Day = 206 },
		func(b *api.RecordBook) { b.Events[1].Day, b.Claims[1].Papers = 211, only(211) },
		func(b *api.RecordBook) { b.Events[2].Day, b.Claims[2].Gone, b.Claims[2].Papers = 1, 0, only(1) },
		func(b *api.RecordBook) { b.Table = list(500, 500) },
		func(b *api.RecordBook) { b.Table = list(500, 600, 599) },
		func(b *api.RecordBook) { b.Table = list(1, 0) })
	checkBooks(t, api.OutOfOrder, func(b *api.RecordBook) {
		b.Events[1].Day, b.Claims[1], b.Claims[3].Papers = 401, b.Claims[0], only(401)
	})
	for _, n := range list(10000, math.MaxInt) {
		checkBooks(t, api.OffLimits, func(b *api.RecordBook) { b.Claims[0].Gone = n }, func(b *api.RecordBook) { b.Claims[3].Gone = n })
	}
}

// P9.1, R1: of several fouls the first one: what is before it is mended step by step.
func TestBookFoulOrder(t *testing.T) {
	b := api.RecordBook{Kinds: make([]api.RecordKind, 4), Events: make([]api.RecordEvent, 4), Claims: make([]api.RecordClaim, 5), Classes: make([]api.RecordClass, 4), Table: make([]int, 7)}
	for i, x := range []struct {
		want api.Foul
		mend func()
	}{
		{api.BadCount, func() { b.Kinds = []api.RecordKind{{Name: "k"}, {Star: -1}, {Name: "K"}} }},
		{api.BadName, func() { b.Kinds[1].Name = "k" }},
		{api.Twice, func() { b.Kinds[1].Name = "l" }},
		{api.OffLimits, func() { b.Kinds[1].Star = 0 }},
		{api.BadName, func() { b.Kinds = b.Kinds[:2] }},
		{api.BadCount, func() { b.Events = []api.RecordEvent{{Name: "e", Day: 50}, {Day: -1}, {Name: "E"}} }},
		{api.BadName, func() { b.Events[1].Name = "e" }},
		{api.Twice, func() { b.Events[1].Name = "f" }},
		{api.OffLimits, func() { b.Events[1].Day = 0 }},
		{api.BadName, func() { b.Events = b.Events[:2] }},
		{api.BadCount, func() {
			b.Claims = []api.RecordClaim{{Archer: "a", Papers: only(50), Gone: -1}, {Event: 2, Kind: 2, Score: -1, Gone: 10000}, {Archer: "A"}}
		}},
		{api.BadName, func() { b.Claims[1].Archer = "a" }},
		{api.Unknown, func() { b.Claims[1].Event = 0 }},
		{api.Unknown, func() { b.Claims[1].Kind = 1 }},
		{api.OffLimits, func() { b.Claims[1].Score = 1 }},
		{api.OutOfOrder, func() { b.Claims[1].Papers = span(50, 49) }},
		{api.OffLimits, func() { b.Claims[1].Papers = span(50, 51) }},
		{api.OffLimits, func() { b.Claims[1].Gone = 49 }},
		{api.OutOfOrder, func() { b.Claims[1].Gone = 50 }},
		{api.BadName, func() { b.Claims = b.Claims[:2] }},
		{api.BadCount, func() { b.Classes = []api.RecordClass{{Name: "c", Times: 1}, {}, {Name: "C"}} }},
		{api.BadName, func() { b.Classes[1].Name = "c" }},
		{api.Twice, func() { b.Classes[1].Name = "d" }},
		{api.OffLimits, func() { b.Classes[1].Times = 1 }},
		{api.BadName, func() { b.Classes = b.Classes[:2] }},
		{api.BadCount, func() { b.Table = list(5, -1, 1441, 4) }},
		{api.OffLimits, func() { b.Table[1] = 5 }},
		{api.OutOfOrder, func() { b.Table[1] = 6 }},
		{api.OffLimits, func() { b.Table[2] = 7 }},
		{api.OutOfOrder, func() { b.Table[3] = 8 }},
		{api.Fair, func() {}},
	} {
		if f := record.CheckBook(b); f != x.want {
			t.Error(i, f, x.want)
		}
		x.mend()
	}
}
