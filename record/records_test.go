package record_test

import (
	"math"
	"math/rand"
	"slices"
	"testing"

	"nock/api"
	"nock/record"
)

// withoutBest is the chapter's book after the claim 1 was withdrawn on the day 220.
func withoutBest(b *api.RecordBook) { b.Claims[1].Gone = 220 }

// P9.2: the records of the chapter's book, who holds them, and what must be found out, on days when something changes.
func TestRecords(t *testing.T) {
	none, nobody := func(b *api.RecordBook) {}, list()
	both := facts(fact(judges, 1), fact(papers, 0))
	inTime := func(b *api.RecordBook) { b.Claims[0].Papers = span(105, 110) }
	late := func(b *api.RecordBook) { b.Claims[0].Papers = span(111, 115) }
	great := func(b *api.RecordBook) { b.Events[2].Star = 2 }
	for i, x := range []struct {
		changes   []change
		day       int
		want      []int
		sure, can []int
		proof     []api.RecordFact
	}{
		{[]change{none}, 0, list(-1), nobody, nobody, nil},
		{[]change{none}, 99, list(-1), nobody, nobody, nil},
		{[]change{none}, 100, list(-1, 670), nobody, list(0), facts(fact(papers, 0))},
		{[]change{none}, 199, list(-1, 670), nobody, list(0), facts(fact(papers, 0))},
		{[]change{none}, 200, list(-1, 670, 680), nobody, list(0, 1), both},
		{[]change{none}, 300, list(-1, 670, 680), nobody, list(0, 1), both},
		{[]change{none}, 9999, list(-1, 670, 680), nobody, list(0, 1), both},
		{[]change{withoutBest}, 219, list(-1, 670, 680), nobody, list(0, 1), both},
		{[]change{withoutBest}, 220, list(-1, 670), nobody, list(0, 3), both},
		{[]change{withoutBest}, 399, list(-1, 670), nobody, list(0, 3), both},
		{[]change{withoutBest}, 400, list(-1, 670), nobody, list(0), facts(fact(papers, 0))},
		{[]change{inTime}, 100, list(670), list(0), list(0), nil},
		{[]change{inTime}, 250, list(670, 680), nobody, list(0, 1), facts(fact(judges, 1))},
		{[]change{inTime, withoutBest}, 250, list(670), list(0), list(0, 3), nil},
		{[]change{late}, 150, list(-1), nobody, nobody, nil},
		{[]change{late}, 250, list(-1, 680), nobody, list(1), facts(fact(judges, 1))},
		{[]change{late, withoutBest}, 250, list(-1, 670), nobody, list(3), facts(fact(judges, 1))},
		// The greatest score is certain, whatever the others do.
		{[]change{great}, 300, list(690), list(2), list(2), nil},
		{[]change{great}, 299, list(-1, 670, 680), nobody, list(0, 1), both},
		{[]change{great, func(b *api.RecordBook) { b.Events[2].Judges = span(0, 3) }}, 300, list(-1, 670, 680, 690), nobody, list(0, 1, 2), facts(fact(judges, 1), fact(judges, 2), fact(papers, 0))},
		{[]change{great, func(b *api.RecordBook) { b.Claims[2].Score = 680 }}, 300, list(680), list(2), list(1, 2), nil},
		{[]change{great, func(b *api.RecordBook) { b.Claims[2].Score = 679 }}, 300, list(679, 680), nobody, list(1, 2), facts(fact(judges, 1))},
		{[]change{great, func(b *api.RecordBook) { b.Claims[2].Score = 680 }, func(b *api.RecordBook) { b.Events[1].Judges = only(3) }}, 300, list(680), list(1, 2), list(1, 2), nil},
		{[]change{great, func(b *api.RecordBook) { b.Claims[2].Gone = 300 }}, 300, list(-1, 670, 680), nobody, list(0, 1), both},
		{[]change{great, func(b *api.RecordBook) { b.Claims[2].Gone = 301 }}, 300, list(690), list(2), list(2), nil},
		{[]change{func(b *api.RecordBook) { b.Claims[1].Papers = span(210, 211) }}, 250, list(-1, 670, 680), nobody, list(0, 1, 3), facts(fact(judges, 1), fact(papers, 0), fact(papers, 1))},
		// A score of 0 is a record, too.
		{[]change{inTime, func(b *api.RecordBook) { b.Claims[0].Score = 0 }}, 100, list(0), list(0), list(0), nil},
		{[]change{func(b *api.RecordBook) { b.Claims[0].Score = 0 }}, 100, list(-1, 0), nobody, list(0), facts(fact(papers, 0))},
		{[]change{func(b *api.RecordBook) { b.Claims = nil }}, 250, list(-1), nobody, nobody, nil},
		{[]change{func(b *api.RecordBook) { b.Kinds = append([]api.RecordKind{kind("q", 0, 0, 0, 0, 0)}, b.Kinds...) }}, 250, list(-1), nobody, nobody, nil},
	} {
		b := withBook(x.changes...)
		if l := recordsOf(t, b, 0, x.day); !slices.Equal(l, x.want) {
			t.Error(i, l)
		}
		if sure, can := holdersOf(t, b, 0, x.day); !slices.Equal(sure, x.sure) || !slices.Equal(can, x.can) {
			t.Error(i, sure, can)
		}
		if l := proofOf(t, b, 0, x.day); !slices.Equal(l, x.proof) {
			t.Error(i, l)
		}
	}
}

// P9.2: another kind has records of its own, of the same events.
func TestRecordsOfKinds(t *testing.T) {
	b := withBook(func(b *api.RecordBook) {
		b.Kinds = append(b.Kinds, kind("s", 0, 4, 7000, 5, 9))
		b.Claims[0].Kind, b.Claims[3].Kind = 1, 1
		b.Events[0].Judges = only(4)
	})
	if l := recordsOf(t, b, 0, 250); !slices.Equal(l, list(-1, 680)) {
		t.Error(l)
	}
	if l := recordsOf(t, b, 1, 250); !slices.Equal(l, list(-1, 670)) {
		t.Error(l)
	}
	if sure, can := holdersOf(t, b, 1, 250); len(sure) > 0 || !slices.Equal(can, list(0)) {
		t.Error(sure, can)
	}
	// The papers of the claim 3 came too late for this kind: so the judges of its event do not matter.
	if l := proofOf(t, b, 1, 250); !slices.Equal(l, facts(fact(length, 0), fact(papers, 0))) {
		t.Error(l)
	}
	if l := proofOf(t, b, 0, 250); !slices.Equal(l, facts(fact(judges, 1))) {
		t.Error(l)
	}
}

// P9.2: the fouls of questions about the record of a kind.
func TestRecordsFouls(t *testing.T) {
	for i, x := range []struct {
		change    change
		kind, day int
		want      api.Foul
	}{
		{func(b *api.RecordBook) {}, 0, 0, api.Fair}, {func(b *api.RecordBook) {}, 0, 9999, api.Fair},
		{func(b *api.RecordBook) {}, 1, 5, api.Unknown}, {func(b *api.RecordBook) {}, -1, 5, api.Unknown}, {func(b *api.RecordBook) {}, math.MinInt, 5, api.Unknown}, {func(b *api.RecordBook) {}, math.MaxInt, 5, api.Unknown},
		{func(b *api.RecordBook) {}, 0, -1, api.OffLimits}, {func(b *api.RecordBook) {}, 0, 10000, api.OffLimits}, {func(b *api.RecordBook) {}, 0, math.MinInt, api.OffLimits}, {func(b *api.RecordBook) {}, 0, math.MaxInt, api.OffLimits},
		{func(b *api.RecordBook) {}, 1, -1, api.Unknown},
		{func(b *api.RecordBook) { b.Kinds, b.Claims = nil, nil }, 0, 5, api.Unknown},
		{func(b *api.RecordBook) { b.Classes[0].Times = 5 }, 0, 5, api.OffLimits},
		{func(b *api.RecordBook) { b.Events[1].Name = "a" }, 5, -1, api.Twice},
	} {
		b := withBook(x.change)
		l, f := record.Records(b, x.kind, x.day)
		sure, can, g := record.Holders(b, x.kind, x.day)
		proof, h := record.Proof(b, x.kind, x.day)
		if f != x.want || g != x.want || h != x.want || f != api.Fair && len(l)+len(sure)+len(can)+len(proof) > 0 {
			t.Error(i, l, f, sure, can, g, proof, h)
		}
	}
}

// held is what Records and Holders say.
type held struct{ records, sure, can []int }

func heldOf(t *testing.T, b api.RecordBook, kind, day int) held {
	t.Helper()
	sure, can := holdersOf(t, b, kind, day)
	return held{recordsOf(t, b, kind, day), sure, can}
}

// heldInTruths returns what Records and Holders must say by all truths.
func heldInTruths(b api.RecordBook, kind, day int) held {
	seen, holds, many := make(map[int]bool), make([]int, len(b.Claims)), 0
	for x := range truths(b) {
		many++
		record, holders := recordIn(b, x, kind, day)
		seen[record] = true
		for _, i := range holders {
			holds[i]++
		}
	}
	var h held
	for n := -1; n <= api.MaxRecordScore; n++ {
		if seen[n] {
			h.records = append(h.records, n)
		}
	}
	for i, n := range holds {
		if sureOf(n, many) == yes {
			h.sure = append(h.sure, i)
		}
		if n > 0 {
			h.can = append(h.can, i)
		}
	}
	return h
}

func sameHeld(a, b held) bool {
	return slices.Equal(a.records, b.records) && slices.Equal(a.sure, b.sure) && slices.Equal(a.can, b.can)
}

// P9.2, P9.6, P2: the records and their holders are those of all truths.
func TestRecordsInAllTruths(t *testing.T) {
	r := rand.New(rand.NewSource(102))
	open, shared := 0, 0
	for range 1200 {
		b := openRandomBook(r, pick(r, []scale{small, great}), 2000)
		kind, day := r.Intn(len(b.Kinds)), someDay(r, b)
		want := heldInTruths(b, kind, day)
		if h := heldOf(t, b, kind, day); !sameHeld(h, want) {
			t.Fatal(b, kind, day, h, want)
		}
		if len(want.records) > 2 {
			open++
		}
		if len(want.sure) > 0 && len(want.can) > len(want.sure) {
			shared++
		}
	}
	if open < 30 || shared < 5 {
		t.Error("too few are of a kind", open, shared)
	}
}

// P9.2: a book in which all that can be open is open.
func TestRecordsOfOpenBook(t *testing.T) {
	b := openBook()
	if h := heldOf(t, b, 0, 9500); !sameHeld(h, held{list(-1, 100, 101, 102, 103), nil, list(0, 1, 2, 3)}) {
		t.Error(h)
	}
	want := facts(fact(judges, 0), fact(judges, 1), fact(judges, 2), fact(length, 0), fact(length, 1), fact(length, 2), fact(papers, 0), fact(papers, 1), fact(papers, 2), fact(papers, 3))
	if l := proofOf(t, b, 0, 9500); !slices.Equal(l, want) {
		t.Error(l)
	}
	if l := proofOf(t, b, 1, 9500); len(l) > 0 {
		t.Error(l)
	}
	// Without the event of the day 9000 the claims 0 and 3 do not count yet.
	if l := proofOf(t, b, 0, 8999); !slices.Equal(l, slices.DeleteFunc(want, func(x api.RecordFact) bool {
		return x.What != papers && x.Index == 0 || x == fact(papers, 0) || x == fact(papers, 3)
	})) {
		t.Error(l)
	}
}
