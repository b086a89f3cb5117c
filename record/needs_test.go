package record_test

import (
	"math"
	"math/rand"
	"slices"
	"testing"

	"nock/api"
	"nock/record"
)

// P9.1: what is known of a claim's needs, at the numbers where it changes.
func TestNeeds(t *testing.T) {
	for i, x := range []struct {
		change change
		claim  int
		want   []api.Sure
		stands api.Sure
		lacks  []api.RecordNeed
	}{
		{func(b *api.RecordBook) {}, 0, []api.Sure{yes, yes, yes, maybe}, maybe, needs(papers)},
		{func(b *api.RecordBook) {}, 1, []api.Sure{yes, maybe, yes, yes}, maybe, needs(judges)},
		{func(b *api.RecordBook) {}, 2, []api.Sure{no, yes, yes, yes}, no, needs(star)},
		{func(b *api.RecordBook) {}, 3, []api.Sure{yes, maybe, yes, yes}, maybe, needs(judges)},
		{func(b *api.RecordBook) { b.Kinds[0].Star = 3 }, 0, []api.Sure{yes, yes, yes, maybe}, maybe, needs(papers)},
		{func(b *api.RecordBook) { b.Kinds[0].Star = 4 }, 0, []api.Sure{no, yes, yes, maybe}, no, needs(star, papers)},
		{func(b *api.RecordBook) { b.Kinds[0].Judges = 4 }, 0, []api.Sure{yes, no, yes, maybe}, no, needs(judges, papers)},
		{func(b *api.RecordBook) { b.Kinds[0].Judges = 2 }, 1, []api.Sure{yes, yes, yes, yes}, yes, nil},
		{func(b *api.RecordBook) { b.Kinds[0].Judges = 4 }, 1, []api.Sure{yes, maybe, yes, yes}, maybe, needs(judges)},
		{func(b *api.RecordBook) { b.Kinds[0].Judges = 5 }, 1, []api.Sure{yes, no, yes, yes}, no, needs(judges)},
		{func(b *api.RecordBook) { b.Kinds[0].Slack = 20 }, 0, []api.Sure{yes, yes, yes, maybe}, maybe, needs(papers)},
		{func(b *api.RecordBook) { b.Kinds[0].Slack = 19 }, 0, []api.Sure{yes, yes, maybe, maybe}, maybe, needs(length, papers)},
		{func(b *api.RecordBook) { b.Kinds[0].Slack = 0 }, 0, []api.Sure{yes, yes, maybe, maybe}, maybe, needs(length, papers)},
		{func(b *api.RecordBook) { b.Kinds[0].Length = 7050 }, 0, []api.Sure{yes, yes, maybe, maybe}, maybe, needs(length, papers)},
		{func(b *api.RecordBook) { b.Kinds[0].Length = 7051 }, 0, []api.Sure{yes, yes, no, maybe}, no, needs(length, papers)},
		{func(b *api.RecordBook) { b.Kinds[0].Length = 6950 }, 0, []api.Sure{yes, yes, maybe, maybe}, maybe, needs(length, papers)},
		{func(b *api.RecordBook) { b.Kinds[0].Length = 6949 }, 0, []api.Sure{yes, yes, no, maybe}, no, needs(length, papers)},
		{func(b *api.RecordBook) { b.Kinds[0].Length, b.Kinds[0].Slack = 7030, 0 }, 1, []api.Sure{yes, maybe, no, yes}, no, needs(judges, length)},
		{func(b *api.RecordBook) { b.Kinds[0].Length = 7030 }, 1, []api.Sure{yes, maybe, yes, yes}, maybe, needs(judges)},
		{func(b *api.RecordBook) { b.Kinds[0].Within = 15 }, 0, []api.Sure{yes, yes, yes, yes}, yes, nil},
		{func(b *api.RecordBook) { b.Kinds[0].Within = 14 }, 0, []api.Sure{yes, yes, yes, maybe}, maybe, needs(papers)},
		{func(b *api.RecordBook) { b.Kinds[0].Within = 5 }, 0, []api.Sure{yes, yes, yes, maybe}, maybe, needs(papers)},
		{func(b *api.RecordBook) { b.Kinds[0].Within = 4 }, 0, []api.Sure{yes, yes, yes, no}, no, needs(papers)},
		{func(b *api.RecordBook) { b.Kinds[0].Within = 0 }, 2, []api.Sure{no, yes, yes, no}, no, needs(star, papers)},
		{func(b *api.RecordBook) { b.Kinds[0].Within, b.Claims[2].Papers = 0, only(300) }, 2, []api.Sure{no, yes, yes, yes}, no, needs(star)},
		{func(b *api.RecordBook) { b.Kinds[0] = kind("k", 5, 9, 0, 0, 0) }, 0, []api.Sure{no, no, no, no}, no, needs(star, judges, length, papers)},
		{func(b *api.RecordBook) { b.Kinds[0] = kind("k", 0, 0, 100, 999, 999) }, 0, []api.Sure{yes, yes, no, yes}, no, needs(length)},
		// It depends on the claim's own kind and event, and not on whether it is gone.
		{func(b *api.RecordBook) {
			b.Kinds = append(b.Kinds, kind("s", 0, 0, 7000, 0, 0))
			b.Claims[0].Kind, b.Claims[0].Gone = 1, 100
		}, 0, []api.Sure{yes, yes, maybe, no}, no, needs(length, papers)},
		{func(b *api.RecordBook) { *b = openBook() }, 3, []api.Sure{yes, maybe, maybe, maybe}, maybe, needs(judges, length, papers)},
	} {
		b := withBook(x.change)
		if l := needsOf(t, b, x.claim); !slices.Equal(l, x.want) {
			t.Error(i, l)
		}
		if s := standsOf(t, b, x.claim); s != x.stands {
			t.Error(i, s)
		}
		if l, can := lacksOf(t, b, x.claim); !slices.Equal(l, x.lacks) || can != (x.stands != no) {
			t.Error(i, l, can)
		}
	}
}

// P9.1: the fouls of questions about a claim.
func TestNeedsFouls(t *testing.T) {
	for i, x := range []struct {
		change change
		claim  int
		want   api.Foul
	}{
		{func(b *api.RecordBook) {}, 4, api.Unknown},
		{func(b *api.RecordBook) {}, -1, api.Unknown},
		{func(b *api.RecordBook) {}, math.MinInt, api.Unknown},
		{func(b *api.RecordBook) {}, math.MaxInt, api.Unknown},
		{func(b *api.RecordBook) { b.Claims = nil }, 0, api.Unknown},
		{func(b *api.RecordBook) { b.Table = list(5, 5) }, 0, api.OutOfOrder},
		{func(b *api.RecordBook) { b.Kinds[0].Name = "" }, -1, api.BadName},
	} {
		b := withBook(x.change)
		if l, f := record.Needs(b, x.claim); len(l) > 0 || f != x.want {
			t.Error(i, l, f)
		}
		if s, f := record.Stands(b, x.claim); s != maybe || f != x.want {
			t.Error(i, s, f)
		}
		if l, can, f := record.Lacks(b, x.claim); len(l) > 0 || can || f != x.want {
			t.Error(i, l, can, f)
		}
	}
}

// P9.1, P9.6, P2: needs are met, and claims stand, in all truths, in none or in some, as is said.
func TestNeedsInAllTruths(t *testing.T) {
	r := rand.New(rand.NewSource(101))
	var seen [3]int
	for i := range 600 {
		b := openRandomBook(r, pick(r, []scale{small, great}), 2000)
		c := i % len(b.Claims)
		met, stood, many := make([]int, 4), 0, 0
		for x := range truths(b) {
			many++
			for k, is := range metIn(b, x, c) {
				if is {
					met[k]++
				}
			}
			if standsIn(b, x, c) {
				stood++
			}
		}
		var want []api.Sure
		var lacks []api.RecordNeed
		for k, n := range met {
			want = append(want, sureOf(n, many))
			if n < many {
				lacks = append(lacks, api.RecordNeed(k))
			}
		}
		if l := needsOf(t, b, c); !slices.Equal(l, want) {
			t.Fatal(b, c, l, want)
		}
		if s := standsOf(t, b, c); s != sureOf(stood, many) {
			t.Fatal(b, c, s)
		}
		if l, can := lacksOf(t, b, c); !slices.Equal(l, lacks) || can != (stood > 0) {
			t.Fatal(b, c, l, can)
		}
		seen[standsOf(t, b, c)]++
	}
	if slices.Min(seen[:]) < 30 {
		t.Error("too few claims of a kind", seen)
	}
}
