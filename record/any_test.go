package record_test

import (
	"math"
	"math/rand"
	"reflect"
	"slices"
	"sync"
	"testing"

	"nock/api"
	"nock/record"
)

// anyNumber returns a number that may be of every kind: great, at a limit, or below 0.
func anyNumber(r *rand.Rand) int {
	return pick(r, list(0, 0, 1, 1, 2, 3, 4, 5, 6, 7, 9, 10, 64, 999, 1000, 1440, 1441, 9999, 10000, 99999, 100000, -1, -1, -2, math.MinInt, math.MaxInt))
}

func anyName(r *rand.Rand) string {
	return pick(r, []string{"", "a", "b", "B", "1", "a1", "a\n", "\xff", "abcdefghij01", "abcdefghij012"})
}

func anySpan(r *rand.Rand) api.Span { return span(anyNumber(r), anyNumber(r)) }

func anyClaim(r *rand.Rand) api.RecordClaim {
	return claim(anyName(r), r.Intn(4)-1, r.Intn(4)-1, anyNumber(r), anySpan(r), anyNumber(r))
}

// anyBook returns a book that has fouls often.
func anyBook(r *rand.Rand) api.RecordBook {
	b := randomBook(r, pick(r, []scale{small, great}))
	switch r.Intn(20) {
	case 0:
		b.Kinds = append(b.Kinds, kind(anyName(r), anyNumber(r), anyNumber(r), anyNumber(r), anyNumber(r), anyNumber(r)))
	case 1:
		b.Kinds = slices.Repeat(b.Kinds, 2)
	case 2:
		b.Events = append(b.Events, event(anyName(r), anyNumber(r), anyNumber(r), anySpan(r), anySpan(r)))
	case 3:
		b.Events = slices.Repeat(b.Events, 2)
	case 4:
		b.Claims = append(b.Claims, anyClaim(r))
	case 5:
		b.Claims = slices.Repeat(b.Claims, 3)
	case 6:
		b.Classes = append(b.Classes, class(anyName(r), anyNumber(r), anyNumber(r), anyNumber(r), anyNumber(r)))
	case 7:
		b.Classes = slices.Repeat(b.Classes, 2)
	case 8:
		b.Table = append(b.Table, anyNumber(r), anyNumber(r))
	case 9:
		b.Kinds = nil
	case 10:
		b.Events = nil
	case 11:
		for i := range b.Claims {
			b.Claims[i].Papers.Min = anyNumber(r)
		}
	}
	return b
}

// zero says whether results, and lists in them, are as they must be beside a foul.
func zero(results ...any) bool {
	for _, x := range results {
		if b, is := x.(api.RecordBook); is {
			if !sameBook(b, api.RecordBook{}) {
				return false
			}
			continue
		}
		if v := reflect.ValueOf(x); !v.IsZero() && (v.Kind() != reflect.Slice || v.Len() > 0) {
			return false
		}
	}
	return true
}

// result is what a call returned: its foul, and all else.
type result struct {
	f    api.Foul
	rest []any
}

// question is what calls are given.
type question struct {
	b                       api.RecordBook
	claim, kind, class, day int
	score                   int
	archer                  string
	fact                    api.RecordFact
	in                      api.Span
	more                    api.RecordClaim
}

func anyQuestion(r *rand.Rand) question {
	q := question{b: anyBook(r), claim: r.Intn(3), kind: r.Intn(2), class: r.Intn(2), archer: pick(r, []string{"ann", "ben", "eve"}), score: r.Intn(1441)}
	q.day, q.fact, q.in = someDay(r, q.b), fact(api.RecordNeed(r.Intn(4)), r.Intn(3)), span(r.Intn(9), between(r, 9, 99999))
	q.more = claim("ann", 0, 0, 5, only(9999), -1)
	switch r.Intn(8) {
	case 0:
		q.claim, q.kind, q.class = anyNumber(r), anyNumber(r), anyNumber(r)
	case 1:
		q.day, q.score = anyNumber(r), anyNumber(r)
	case 2:
		q.archer = anyName(r)
	case 3:
		q.fact = fact(api.RecordNeed(anyNumber(r)), anyNumber(r))
	case 4:
		q.in = anySpan(r)
	case 5:
		q.more = anyClaim(r)
	}
	return q
}

func (q question) copied() question {
	q.b = copyBook(q.b)
	return q
}

// claimCalls calls each function with a claim alone, or with nothing but a book.
func claimCalls(q question) []result {
	text, f1 := record.Print(q.b)
	needs, f2 := record.Needs(q.b, q.claim)
	stands, f3 := record.Stands(q.b, q.claim)
	lacks, can, f4 := record.Lacks(q.b, q.claim)
	return []result{{record.CheckBook(q.b), nil}, {f1, []any{text}}, {f2, []any{needs}}, {f3, []any{stands}}, {f4, []any{lacks, can}}}
}

// kindCalls calls each function with a kind, a class or a score.
func kindCalls(q question) []result {
	records, f1 := record.Records(q.b, q.kind, q.day)
	sure, can, f2 := record.Holders(q.b, q.kind, q.day)
	proof, f3 := record.Proof(q.b, q.kind, q.day)
	has, f4 := record.Class(q.b, q.class, q.day, q.archer)
	least, most, f5 := record.Short(q.b, q.class, q.day, q.archer)
	handicap, f6 := record.Handicap(q.b, q.score)
	return []result{{f1, []any{records}}, {f2, []any{sure, can}}, {f3, []any{proof}}, {f4, []any{has}}, {f5, []any{least, most}}, {f6, []any{handicap}}}
}

// newsCalls calls each function that returns a book.
func newsCalls(q question) []result {
	learnt, f1 := record.Learn(q.b, q.fact, q.in)
	gone, f2 := record.Withdraw(q.b, q.claim, q.day)
	more, f3 := record.Add(q.b, q.more)
	return []result{{f1, []any{learnt}}, {f2, []any{gone}}, {f3, []any{more}}}
}

func allCalls(q question) []result {
	return slices.Concat(claimCalls(q), kindCalls(q), newsCalls(q))
}

// orElse returns the first foul of some.
func orElse(fouls ...api.Foul) api.Foul {
	for _, f := range fouls {
		if f != api.Fair {
			return f
		}
	}
	return api.Fair
}

// unless returns a foul unless something is so.
func unless(is bool, f api.Foul) api.Foul {
	if is {
		return api.Fair
	}
	return f
}

// learnFoul returns the foul of what is learnt of a book that has none.
func learnFoul(q question) api.Foul {
	many := len(q.b.Events)
	if q.fact.What == papers {
		many = len(q.b.Claims)
	}
	f := orElse(
		unless(isIn(int(q.fact.What), span(int(judges), int(papers))), api.OffLimits),
		unless(isIn(q.fact.Index, span(0, many-1)), api.Unknown),
		unless(0 <= q.in.Min && q.in.Min <= q.in.Max && q.in.Max <= 99999, api.OffLimits))
	if f != api.Fair {
		return f
	}
	s := spanIn(q.b, q.fact)
	return unless(q.in.Min <= s.Max && s.Min <= q.in.Max, api.Against)
}

// isNamed says whether a string is a name, of those that anyName returns or that are archers.
func isNamed(name string) bool {
	return slices.Contains([]string{"ann", "ben", "eve", "a", "b", "a1", "abcdefghij01"}, name)
}

// wantedFouls returns the fouls of all calls, if that of the book is known.
func wantedFouls(q question, f api.Foul) []api.Foul {
	index := func(i, many int) api.Foul { return unless(isIn(i, span(0, many-1)), api.Unknown) }
	day := unless(isIn(q.day, span(0, 9999)), api.OffLimits)
	claim := orElse(f, index(q.claim, len(q.b.Claims)))
	kind := orElse(f, index(q.kind, len(q.b.Kinds)), day)
	class := orElse(f, index(q.class, len(q.b.Classes)), day, unless(isNamed(q.archer), api.BadName))
	score := orElse(f, unless(isIn(q.score, span(0, 1440)), api.OffLimits))
	learn, gone, add := f, orElse(claim, day), f
	if f == api.Fair {
		learn = learnFoul(q)
		longer := copyBook(q.b)
		longer.Claims = append(longer.Claims, q.more)
		add = record.CheckBook(longer)
	}
	if gone == api.Fair {
		c := q.b.Claims[q.claim]
		gone = unless(c.Gone == -1 && q.day >= q.b.Events[c.Event].Day, api.OutOfOrder)
	}
	return []api.Foul{f, f, claim, claim, claim, kind, kind, kind, class, class, score, learn, gone, add}
}

// P1, R1, R4: any arguments are answered, in the same way each time, and are not changed.
func TestAnyArguments(t *testing.T) {
	r := rand.New(rand.NewSource(113))
	many := make(map[api.Foul]int)
	for range 3000 {
		q := anyQuestion(r)
		old := q.copied()
		results := allCalls(q)
		want := wantedFouls(q, record.CheckBook(q.b))
		for i, x := range results {
			if x.f != api.Fair && !zero(x.rest...) {
				t.Fatal("results beside a foul", q, i, x)
			}
			if x.f != want[i] {
				t.Fatal("another foul", q, i, x, want[i])
			}
			many[x.f]++
		}
		if !reflect.DeepEqual(q, old) {
			t.Fatal("an argument was changed", q, old)
		}
		if !reflect.DeepEqual(results, allCalls(q)) {
			t.Fatal("another answer to the same question", q)
		}
	}
	for _, f := range []api.Foul{api.Fair, api.OffLimits, api.BadCount, api.BadName, api.Twice, api.Unknown, api.OutOfOrder, api.Against} {
		if many[f] < 20 {
			t.Error("too few calls had the foul", f, many[f])
		}
	}
}

// P1: what is very long is answered.
func TestLongArguments(t *testing.T) {
	const many = 1 << 17
	long := string(make([]byte, many))
	for want, changes := range map[api.Foul][]change{
		api.BadCount: {
			func(b *api.RecordBook) { b.Kinds = make([]api.RecordKind, many) },
			func(b *api.RecordBook) { b.Events = make([]api.RecordEvent, many) },
			func(b *api.RecordBook) { b.Claims = make([]api.RecordClaim, many) },
			func(b *api.RecordBook) { b.Classes = make([]api.RecordClass, many) },
			func(b *api.RecordBook) { b.Table = make([]int, many) },
		},
		api.BadName: {
			func(b *api.RecordBook) { b.Kinds[0].Name = long },
			func(b *api.RecordBook) { b.Events[2].Name = long },
			func(b *api.RecordBook) { b.Claims[3].Archer = long },
			func(b *api.RecordBook) { b.Classes[0].Name = long },
		},
	} {
		for i, change := range changes {
			for k, x := range allCalls(question{b: withBook(change)}) {
				if x.f != want {
					t.Error(i, k, x.f)
				}
			}
		}
	}
	if s, f := record.Class(exampleBook(), 0, 0, long); s != maybe || f != api.BadName {
		t.Error(s, f)
	}
	if o, f := record.Add(withBook(func(b *api.RecordBook) { b.Claims = nil }), claim(long, 0, 0, 0, only(100), -1)); f != api.BadName || !zero(o) {
		t.Error(o, f)
	}
}

// P1: any text is answered.
func TestAnyText(t *testing.T) {
	r := rand.New(rand.NewSource(114))
	some := []string{kind1, event1, claim1, class1, table1, whole, "kind ", "event ", "claim ", "class ", "table ", "a ", " ", " ", "\n", "\n", "1", "2", "/", "..", "0", "-", "-1", "3..4", "\xff", "\x00", "999999999"}
	for range 5000 {
		text := ""
		if r.Intn(2) == 0 {
			text = kind1 + event1
		}
		for range r.Intn(20) {
			text += pick(r, some)
		}
		b, n, f := record.Parse(text)
		if f != api.Fair && !sameBook(b, api.RecordBook{}) || f != api.BadForm && n != 0 {
			t.Fatalf("%q: %v %d %d", text, b, n, f)
		}
		if f == api.Fair && record.CheckBook(b) != api.Fair {
			t.Fatalf("%q: %v", text, b)
		}
	}
}

// emptied returns a book whose lists are empty, but not nil, where those of another one are nil.
func emptied(b api.RecordBook) api.RecordBook {
	return api.RecordBook{
		Kinds:   append([]api.RecordKind{}, b.Kinds...),
		Events:  append([]api.RecordEvent{}, b.Events...),
		Claims:  append([]api.RecordClaim{}, b.Claims...),
		Classes: append([]api.RecordClass{}, b.Classes...),
		Table:   append([]int{}, b.Table...),
	}
}

// sameRest compares results; nil and empty lists are the same.
func sameRest(a, b any) bool {
	x, is := a.(api.RecordBook)
	if !is {
		return zero(a) && zero(b) || reflect.DeepEqual(a, b)
	}
	y, is := b.(api.RecordBook)
	return is && sameBook(x, y)
}

// R3: nil and an empty slice are the same.
func TestNilAndEmpty(t *testing.T) {
	r := rand.New(rand.NewSource(115))
	for range 500 {
		q := anyQuestion(r)
		switch r.Intn(4) {
		case 0:
			q.b = api.RecordBook{}
		case 1:
			q.b.Claims = nil
		case 2:
			q.b.Classes, q.b.Table = nil, nil
		}
		o := q
		o.b = emptied(q.b)
		x, y := allCalls(q), allCalls(o)
		for i := range x {
			if x[i].f != y[i].f || !slices.EqualFunc(x[i].rest, y[i].rest, sameRest) {
				t.Fatal(q, i, x[i], y[i])
			}
		}
	}
}

// spoil changes all elements of a book, and what is behind its lists.
func spoil(b api.RecordBook) {
	b.Kinds, b.Events, b.Claims, b.Classes, b.Table = b.Kinds[:cap(b.Kinds)], b.Events[:cap(b.Events)], b.Claims[:cap(b.Claims)], b.Classes[:cap(b.Classes)], b.Table[:cap(b.Table)]
	clear(b.Kinds)
	clear(b.Events)
	clear(b.Claims)
	clear(b.Classes)
	clear(b.Table)
}

// R4: answers share no memory with arguments, nor with each other.
func TestResultsShareNothing(t *testing.T) {
	b := exampleBook()
	b.Claims = b.Claims[:3]
	same := copyBook(b)
	for range 2 {
		for _, o := range []api.RecordBook{learnt(t, b, fact(judges, 1), only(3)), learnt(t, b, fact(papers, 0), only(105)), withdrawn(t, b, 1, 220), added(t, b, exampleBook().Claims[3])} {
			if len(o.Kinds) != 1 || len(o.Events) != 3 || len(o.Claims) < 3 || len(o.Classes) != 1 || len(o.Table) != 3 {
				t.Fatal(o)
			}
			spoil(o)
		}
		needs, records, proof := needsOf(t, b, 0), recordsOf(t, b, 0, 250), proofOf(t, b, 0, 250)
		lacks, _ := lacksOf(t, b, 0)
		_, can := holdersOf(t, b, 0, 250)
		if needs[3] != maybe || lacks[0] != papers || records[2] != 680 || can[1] != 1 || proof[1] != fact(papers, 0) {
			t.Fatal(needs, lacks, records, can, proof)
		}
		clear(needs)
		clear(lacks)
		clear(records)
		clear(can)
		clear(proof)
		if !sameBook(b, same) {
			t.Fatal("an argument was changed", b)
		}
	}
	sure, can := holdersOf(t, withBook(func(b *api.RecordBook) { b.Events[1].Judges = only(3) }), 0, 250)
	clear(sure)
	if !slices.Equal(can, list(1)) {
		t.Fatal("two lists share memory", sure, can)
	}
	read, _, f := record.Parse(exampleText)
	fair(t, f)
	spoil(read)
	if again, _, f := record.Parse(exampleText); f != api.Fair || !sameBook(again, exampleBook()) {
		t.Fatal(again, f)
	}
}

// P1: calls at the same time answer as one after the other.
func TestCallsAtOnce(t *testing.T) {
	b := openBook()
	want := allCalls(question{b: b, day: 9500, archer: "a", fact: fact(judges, 0), in: only(5), more: b.Claims[0]})
	var all sync.WaitGroup
	for range 8 {
		all.Go(func() {
			for range 5 {
				if x := allCalls(question{b: b, day: 9500, archer: "a", fact: fact(judges, 0), in: only(5), more: b.Claims[0]}); !reflect.DeepEqual(x, want) {
					t.Error(x, want)
				}
			}
		})
	}
	all.Wait()
}
