package record_test

import (
	"math"
	"math/rand"
	"slices"
	"testing"

	"nock/api"
	"nock/record"
)

// P9.3: what is learnt is what both spans have in common, and nothing else changes.
func TestLearn(t *testing.T) {
	for i, x := range []struct {
		fact api.RecordFact
		in   api.Span
		want func(b *api.RecordBook)
	}{
		{fact(judges, 1), span(3, 9), func(b *api.RecordBook) { b.Events[1].Judges = span(3, 4) }},
		{fact(judges, 1), span(0, 3), func(b *api.RecordBook) { b.Events[1].Judges = span(2, 3) }},
		{fact(judges, 1), only(3), func(b *api.RecordBook) { b.Events[1].Judges = only(3) }},
		{fact(judges, 1), span(4, 99999), func(b *api.RecordBook) { b.Events[1].Judges = only(4) }},
		{fact(judges, 1), span(2, 4), func(b *api.RecordBook) {}},
		{fact(judges, 1), span(0, 99999), func(b *api.RecordBook) {}},
		{fact(judges, 2), only(5), func(b *api.RecordBook) {}},
		{fact(length, 0), span(7000, 99999), func(b *api.RecordBook) { b.Events[0].Length = span(7000, 7020) }},
		{fact(length, 0), span(0, 6980), func(b *api.RecordBook) { b.Events[0].Length = only(6980) }},
		{fact(papers, 0), span(0, 110), func(b *api.RecordBook) { b.Claims[0].Papers = span(105, 110) }},
		{fact(papers, 0), span(106, 107), func(b *api.RecordBook) { b.Claims[0].Papers = span(106, 107) }},
		{fact(papers, 3), span(200, 99999), func(b *api.RecordBook) {}},
	} {
		b := exampleBook()
		if o := learnt(t, b, x.fact, x.in); !sameBook(o, withBook(x.want)) || !sameBook(b, exampleBook()) {
			t.Error(i, o)
		}
	}
}

// P9.3: the fouls of what is learnt, in their order.
func TestLearnFouls(t *testing.T) {
	wrong := span(3, 2)
	for i, x := range []struct {
		change change
		fact   api.RecordFact
		in     api.Span
		want   api.Foul
	}{
		{func(b *api.RecordBook) { b.Table = list(1441) }, fact(9, 9), wrong, api.OffLimits},
		{func(b *api.RecordBook) { b.Claims[0].Event = 3 }, fact(star, 0), wrong, api.Unknown},
		{func(b *api.RecordBook) {}, fact(star, 0), only(3), api.OffLimits},
		{func(b *api.RecordBook) {}, fact(star, 9), wrong, api.OffLimits},
		{func(b *api.RecordBook) {}, fact(4, 0), only(3), api.OffLimits},
		{func(b *api.RecordBook) {}, fact(-1, 9), only(3), api.OffLimits},
		{func(b *api.RecordBook) {}, fact(math.MinInt, 0), only(3), api.OffLimits},
		{func(b *api.RecordBook) {}, fact(math.MaxInt, 0), only(3), api.OffLimits},
		{func(b *api.RecordBook) {}, fact(judges, 3), only(3), api.Unknown},
		{func(b *api.RecordBook) {}, fact(judges, -1), wrong, api.Unknown},
		{func(b *api.RecordBook) {}, fact(length, 3), only(7000), api.Unknown},
		{func(b *api.RecordBook) {}, fact(length, math.MinInt), wrong, api.Unknown},
		{func(b *api.RecordBook) {}, fact(papers, 4), only(105), api.Unknown},
		{func(b *api.RecordBook) {}, fact(papers, math.MaxInt), wrong, api.Unknown},
		{func(b *api.RecordBook) { b.Claims = b.Claims[:1] }, fact(papers, 1), only(105), api.Unknown},
		{func(b *api.RecordBook) { b.Claims, b.Events = nil, nil }, fact(judges, 0), only(3), api.Unknown},
		{func(b *api.RecordBook) {}, fact(judges, 0), wrong, api.OffLimits},
		{func(b *api.RecordBook) {}, fact(judges, 0), span(-1, 5), api.OffLimits},
		{func(b *api.RecordBook) {}, fact(length, 0), span(0, 100000), api.OffLimits},
		{func(b *api.RecordBook) {}, fact(papers, 0), span(math.MaxInt, math.MinInt), api.OffLimits},
		{func(b *api.RecordBook) {}, fact(papers, 0), span(math.MinInt, math.MaxInt), api.OffLimits},
		{func(b *api.RecordBook) {}, fact(judges, 1), span(0, 1), api.Against},
		{func(b *api.RecordBook) {}, fact(judges, 1), span(5, 99999), api.Against},
		{func(b *api.RecordBook) {}, fact(length, 0), only(6979), api.Against},
		{func(b *api.RecordBook) {}, fact(length, 0), only(7021), api.Against},
		{func(b *api.RecordBook) {}, fact(papers, 0), span(116, 117), api.Against},
		{func(b *api.RecordBook) {}, fact(papers, 3), span(0, 209), api.Against},
	} {
		if o, f := record.Learn(withBook(x.change), x.fact, x.in); f != x.want || !sameBook(o, api.RecordBook{}) {
			t.Error(i, o, f)
		}
	}
}

// P9.3: claims that are withdrawn, and fouls.
func TestWithdraw(t *testing.T) {
	for i, x := range []struct {
		change     change
		claim, day int
		want       api.Foul
	}{
		{func(b *api.RecordBook) {}, 1, 220, api.Fair}, {func(b *api.RecordBook) {}, 1, 200, api.Fair}, {func(b *api.RecordBook) {}, 0, 100, api.Fair}, {func(b *api.RecordBook) {}, 2, 9999, api.Fair},
		{func(b *api.RecordBook) { b.Events[2].Day = 0 }, 2, 0, api.Fair},
		{func(b *api.RecordBook) {}, 1, 199, api.OutOfOrder}, {func(b *api.RecordBook) {}, 1, 0, api.OutOfOrder},
		// A claim that was withdrawn is gone already, though perhaps not on the day.
		{func(b *api.RecordBook) {}, 3, 450, api.OutOfOrder}, {func(b *api.RecordBook) {}, 3, 400, api.OutOfOrder}, {func(b *api.RecordBook) {}, 3, 300, api.OutOfOrder},
		{func(b *api.RecordBook) { b.Events[2].Day, b.Claims[2].Gone = 0, 0 }, 2, 5, api.OutOfOrder},
		{func(b *api.RecordBook) {}, 4, 220, api.Unknown}, {func(b *api.RecordBook) {}, -1, 220, api.Unknown}, {func(b *api.RecordBook) {}, math.MaxInt, -1, api.Unknown}, {func(b *api.RecordBook) { b.Claims = nil }, 0, 220, api.Unknown},
		{func(b *api.RecordBook) {}, 1, 10000, api.OffLimits}, {func(b *api.RecordBook) {}, 1, -1, api.OffLimits}, {func(b *api.RecordBook) {}, 3, -1, api.OffLimits}, {func(b *api.RecordBook) {}, 3, math.MaxInt, api.OffLimits}, {func(b *api.RecordBook) {}, 1, math.MinInt, api.OffLimits},
		{func(b *api.RecordBook) { b.Claims[3].Archer = "" }, 9, -1, api.BadName},
	} {
		b := withBook(x.change)
		old := copyBook(b)
		o, f := record.Withdraw(b, x.claim, x.day)
		want := api.RecordBook{}
		if x.want == api.Fair {
			want = copyBook(b)
			want.Claims[x.claim].Gone = x.day
		}
		if f != x.want || !sameBook(o, want) || !sameBook(b, old) {
			t.Error(i, o, f)
		}
	}
}

// P9.3: claims that are added, and fouls.
func TestAdd(t *testing.T) {
	good := claim("eli", 1, 0, 700, span(201, 202), -1)
	with := func(change func(c *api.RecordClaim)) api.RecordClaim {
		c := good
		change(&c)
		return c
	}
	less := func(b *api.RecordBook) { b.Claims = b.Claims[:3:4] }
	for i, x := range []struct {
		change change
		c      api.RecordClaim
		want   api.Foul
	}{
		{less, good, api.Fair}, {func(b *api.RecordBook) { b.Claims = nil }, good, api.Fair},
		{less, exampleBook().Claims[0], api.Fair}, {less, with(func(c *api.RecordClaim) { c.Gone = 200 }), api.Fair},
		{func(b *api.RecordBook) {}, good, api.BadCount}, {func(b *api.RecordBook) {}, api.RecordClaim{}, api.BadCount},
		{less, with(func(c *api.RecordClaim) { c.Archer = "Eli" }), api.BadName},
		{less, with(func(c *api.RecordClaim) { c.Event = 3 }), api.Unknown}, {less, with(func(c *api.RecordClaim) { c.Kind = -1 }), api.Unknown},
		{less, with(func(c *api.RecordClaim) { c.Score = 1441 }), api.OffLimits}, {less, with(func(c *api.RecordClaim) { c.Papers = span(202, 201) }), api.OffLimits},
		{less, with(func(c *api.RecordClaim) { c.Papers = span(199, 202) }), api.OutOfOrder}, {less, with(func(c *api.RecordClaim) { c.Gone = 199 }), api.OutOfOrder},
		{less, with(func(c *api.RecordClaim) { c.Gone = 10000 }), api.OffLimits},
		{func(b *api.RecordBook) { b.Table = list(2, 1) }, good, api.OutOfOrder},
		{func(b *api.RecordBook) { b.Claims, b.Table = b.Claims[:3], list(2, 1) }, api.RecordClaim{}, api.OutOfOrder},
	} {
		b := withBook(x.change)
		old := copyBook(b)
		o, f := record.Add(b, x.c)
		want := api.RecordBook{}
		if x.want == api.Fair {
			want = copyBook(b)
			want.Claims = append(want.Claims, x.c)
		}
		if f != x.want || !sameBook(o, want) || !sameBook(b, old) {
			t.Error(i, o, f)
		}
		if all := b.Claims[:cap(b.Claims)]; len(all) == 4 && all[3] != exampleBook().Claims[3] {
			t.Error("memory of an argument was changed", i, all)
		}
	}
}

// randomNews returns a book in which some facts are known better.
func randomNews(t *testing.T, r *rand.Rand, b api.RecordBook) api.RecordBook {
	t.Helper()
	all := allFacts(b)
	for range between(r, 1, 4) {
		x := pick(r, all)
		s := spanIn(b, x)
		in := randomSpan(r, s.Min, s.Max)
		if r.Intn(2) == 0 {
			in.Max += r.Intn(5)
		}
		b = learnt(t, b, x, in)
	}
	return b
}

// P9.7, P3: what is learnt never adds a record or a holder, and what is certain stays so.
func TestNews(t *testing.T) {
	r := rand.New(rand.NewSource(105))
	fewer, surer := 0, 0
	for range 1500 {
		b := openRandomBook(r, pick(r, []scale{small, great}), math.MaxInt)
		o := randomNews(t, r, b)
		for i := range b.Claims {
			if !slices.EqualFunc(needsOf(t, b, i), needsOf(t, o, i), keeps) || !keeps(standsOf(t, b, i), standsOf(t, o, i)) {
				t.Fatal(b, o, i)
			}
			was, could := lacksOf(t, b, i)
			is, can := lacksOf(t, o, i)
			if !isPart(is, was) || can && !could {
				t.Fatal(b, o, i, was, is)
			}
		}
		kind, day := r.Intn(len(b.Kinds)), someDay(r, b)
		before, after := heldOf(t, b, kind, day), heldOf(t, o, kind, day)
		if !isPart(after.records, before.records) || !isPart(before.sure, after.sure) || !isPart(after.can, before.can) {
			t.Fatal(b, o, kind, day, before, after)
		}
		if !isPart(proofOf(t, o, kind, day), proofOf(t, b, kind, day)) {
			t.Fatal("something more must be found out", b, o, kind, day)
		}
		fewer += len(before.records) - len(after.records)
		for i := range b.Classes {
			was, is := classOf(t, b, i, day, "ann"), classOf(t, o, i, day, "ann")
			x, y := shortOf(t, b, i, day, "ann"), shortOf(t, o, i, day, "ann")
			if !keeps(was, is) || y.Min < x.Min || y.Max > x.Max {
				t.Fatal(b, o, i, day, was, is, x, y)
			}
			if was != is {
				surer++
			}
		}
	}
	if fewer < 50 || surer < 10 {
		t.Error("too few are news", fewer, surer)
	}
}

// rightSpan returns the numbers with which a claim meets a need.
func rightSpan(b api.RecordBook, claim int, need api.RecordNeed) (api.RecordFact, api.Span) {
	c := b.Claims[claim]
	k, day := b.Kinds[c.Kind], b.Events[c.Event].Day
	switch need {
	case judges:
		return fact(judges, c.Event), span(k.Judges, 9)
	case length:
		return fact(length, c.Event), span(max(k.Length-k.Slack, 0), min(k.Length+k.Slack, 99999))
	}
	return fact(papers, claim), span(day, day+k.Within)
}

// P9.7: a claim that can stand does once what it lacks is found to be met; one that cannot never does.
func TestLacksAreMet(t *testing.T) {
	r := rand.New(rand.NewSource(106))
	stood := 0
	for range 800 {
		b := openRandomBook(r, pick(r, []scale{small, great}), math.MaxInt)
		for i := range b.Claims {
			lacks, can := lacksOf(t, b, i)
			o, f := b, api.Fair
			for k, need := range lacks {
				if can && standsOf(t, o, i) != maybe {
					t.Fatal("it stands before all is met", b, i, lacks[k:])
				}
				if need == star {
					f = api.Against
					break
				}
				x, in := rightSpan(b, i, need)
				if o, f = record.Learn(o, x, in); f != api.Fair {
					break
				}
			}
			if can != (f == api.Fair) || can && standsOf(t, o, i) != yes {
				t.Fatal(b, i, lacks, can, f)
			}
			if can && len(lacks) > 0 {
				stood++
			}
		}
	}
	if stood < 300 {
		t.Error("too few claims stand in the end", stood)
	}
}

// P9.8: one more claim never makes a record less, from its event's day on, and changes none before; one that is withdrawn never makes one greater, and changes none before that day.
func TestClaimsComeAndGo(t *testing.T) {
	r := rand.New(rand.NewSource(107))
	greater, less := 0, 0
	for range 1500 {
		b := openRandomBook(r, pick(r, []scale{small, great}), 2000)
		b.Claims = b.Claims[:min(len(b.Claims), 3)]
		c := randomClaim(r, pick(r, []scale{small, great}), b)
		c.Papers, c.Gone = only(b.Events[c.Event].Day), pick(r, list(-1, b.Events[c.Event].Day+1))
		o := added(t, b, c)
		kind, day := r.Intn(len(b.Kinds)), someDay(r, b)
		was, is := recordsOf(t, b, kind, day), recordsOf(t, o, kind, day)
		if is[0] < was[0] || is[len(is)-1] < was[len(was)-1] {
			t.Fatal("less with one more claim", b, c, kind, day, was, is)
		}
		if from := b.Events[c.Event].Day; (day < from || c.Kind != kind) && !slices.Equal(was, is) {
			t.Fatal("changed before it was", b, c, kind, day, was, is)
		}
		for x := range truths(o) {
			before, _ := recordIn(b, x, kind, day)
			after, _ := recordIn(o, x, kind, day)
			if after < before || !slices.Contains(is, after) {
				t.Fatal(b, c, kind, day, x, before, after)
			}
		}
		if !slices.Equal(was, is) {
			greater++
		}
		i := r.Intn(len(o.Claims))
		from := max(someDay(r, o), o.Events[o.Claims[i].Event].Day)
		gone, f := record.Withdraw(o, i, from)
		if f == api.OutOfOrder && o.Claims[i].Gone != -1 {
			continue
		}
		fair(t, f)
		now := recordsOf(t, gone, kind, day)
		if now[0] > is[0] || now[len(now)-1] > is[len(is)-1] || day < from && !slices.Equal(now, is) {
			t.Fatal("greater, or changed before", o, i, from, kind, day, is, now)
		}
		if !slices.Equal(now, is) {
			less++
		}
	}
	if greater < 50 || less < 50 {
		t.Error("too few records change", greater, less)
	}
}

// P9.8: the chapter's book, after the claim 1 was withdrawn, and after it was given again.
func TestRecordAgain(t *testing.T) {
	b := withdrawn(t, exampleBook(), 1, 220)
	if l := recordsOf(t, b, 0, 250); !slices.Equal(l, list(-1, 670)) {
		t.Error(l)
	}
	if l := recordsOf(t, b, 0, 219); !slices.Equal(l, list(-1, 670, 680)) {
		t.Error(l)
	}
	b.Claims = b.Claims[1:]
	b = added(t, b, exampleBook().Claims[1])
	if h := heldOf(t, b, 0, 250); !sameHeld(h, held{list(-1, 680), nil, list(3)}) {
		t.Error(h)
	}
}

// P9.9, P5: the order of claims changes no more than their indexes.
func TestAnyOrder(t *testing.T) {
	r := rand.New(rand.NewSource(108))
	for range 1000 {
		b := openRandomBook(r, pick(r, []scale{small, great}), math.MaxInt)
		to := r.Perm(len(b.Claims))
		o := copyBook(b)
		for from, i := range to {
			o.Claims[i] = b.Claims[from]
		}
		for i := range b.Claims {
			l, can := lacksOf(t, b, i)
			m, could := lacksOf(t, o, to[i])
			if !slices.Equal(needsOf(t, b, i), needsOf(t, o, to[i])) || standsOf(t, b, i) != standsOf(t, o, to[i]) || !slices.Equal(l, m) || can != could {
				t.Fatal(b, o, i)
			}
		}
		kind, day := r.Intn(len(b.Kinds)), someDay(r, b)
		want := heldOf(t, b, kind, day)
		want.sure, want.can = moved(want.sure, to), moved(want.can, to)
		if h := heldOf(t, o, kind, day); !sameHeld(h, want) {
			t.Fatal(b, o, kind, day, h, want)
		}
		if l, want := proofOf(t, o, kind, day), movedFacts(proofOf(t, b, kind, day), to); !slices.Equal(l, want) {
			t.Fatal(b, o, kind, day, l, want)
		}
		for i := range b.Classes {
			if classOf(t, b, i, day, "ann") != classOf(t, o, i, day, "ann") || shortOf(t, b, i, day, "ann") != shortOf(t, o, i, day, "ann") {
				t.Fatal(b, o, i, day)
			}
		}
	}
}

// moved returns where some indexes are now, ascending.
func moved(indexes, to []int) []int {
	var l []int
	for _, i := range indexes {
		l = append(l, to[i])
	}
	slices.Sort(l)
	return l
}

// movedFacts returns facts as they are with claims in another order: those of papers come last, by the indexes of their claims.
func movedFacts(all []api.RecordFact, to []int) []api.RecordFact {
	var l []api.RecordFact
	var claims []int
	for _, x := range all {
		if x.What == papers {
			claims = append(claims, x.Index)
			continue
		}
		l = append(l, x)
	}
	for _, i := range moved(claims, to) {
		l = append(l, fact(papers, i))
	}
	return l
}
