package club_test

import (
	"math"
	"math/rand"
	"reflect"
	"slices"
	"strings"
	"sync"
	"testing"

	"nock/api"
	"nock/club"
)

// anyNumber returns a number that may be of every kind: great, at a limit, or below 0.
func anyNumber(r *rand.Rand) int {
	return pick(r, list(0, 0, 1, 1, 2, 3, 4, 5, 9, 24, 25, 65520, 65521, 999999999, 1000000000, -1, -1, -2, -999999999, -1000000000, math.MinInt, math.MaxInt))
}

func anyName(r *rand.Rand) string {
	return pick(r, []string{"", "a", "b", "ann", "B", "1", "a1", "a\n", "\xff", "abcdefghij01", "abcdefghij012"})
}

func anySpan(r *rand.Rand) api.Span { return span(anyNumber(r), anyNumber(r)) }

func anyList(r *rand.Rand) []int {
	var l []int
	for range pick(r, list(0, 1, 2, 3, 4, 24, 25)) {
		l = append(l, r.Intn(5)-1)
	}
	if r.Intn(4) == 0 {
		l = append(l, anyNumber(r))
	}
	return l
}

// anyCommand returns a command that has fouls often.
func anyCommand(r *rand.Rand) api.ClubCommand {
	kind := api.ClubKind(r.Intn(14))
	c := fullCommand(kind)
	for range r.Intn(4) {
		switch r.Intn(9) {
		case 0:
			c.Name = anyName(r)
		case 1:
			c.A = anyNumber(r)
		case 2:
			c.B = anyNumber(r)
		case 3:
			c.C = anyNumber(r)
		case 4:
			c.List = anyList(r)
		case 5:
			c.More = anyList(r)
		case 6:
			c.X = anySpan(r)
		case 7:
			c.Y = anySpan(r)
		case 8:
			c.Kind = api.ClubKind(between(r, -1, 14))
		}
	}
	return c
}

// anyBook returns a book that has fouls now and then.
func anyBook(r *rand.Rand) api.ClubBook {
	if r.Intn(4) > 0 {
		return randomBook(r)
	}
	b := exampleBook()
	if r.Intn(2) == 0 {
		two := pick(r, wrongs())
		two[r.Intn(2)].change(&b)
	}
	return b
}

func anyAsk(r *rand.Rand, b api.ClubBook) api.ClubAsk {
	q := randomAsk(r, b)
	switch r.Intn(8) {
	case 0:
		q.A = anyNumber(r)
	case 1:
		q.B = anyNumber(r)
	case 2:
		q.C = anyNumber(r)
	case 3:
		q.Kind = api.ClubQuestion(between(r, -1, 8))
	}
	return q
}

// question is what calls are given.
type question struct {
	b           api.ClubBook
	c           api.ClubCommand
	l           []api.ClubCommand
	class, from int
	text        string
	q           api.ClubAsk
	yes         bool
	list        []int
}

func anyQuestion(t *testing.T, r *rand.Rand) question {
	t.Helper()
	b := anyBook(r)
	q := question{b: b, c: anyCommand(r), class: between(r, -1, 4), from: anyNumber(r), q: anyAsk(r, b), yes: r.Intn(2) == 0, list: anyList(r)}
	if club.CheckBook(b) == api.Fair && r.Intn(2) == 0 {
		q.c, q.l = randomCommand(r, b), randomLog(r, b, r.Intn(6))
		q.text = randomLine(t, r, b) + randomLine(t, r, b)
		return q
	}
	for range pick(r, list(0, 1, 2, 30, 31)) {
		q.l = append(q.l, anyCommand(r))
	}
	q.text = pick(r, []string{"", "\n", logText, "part stock 1 0\n", "\xff", fileOf(exampleParts())})
	return q
}

// returned is what a call returned: its foul, and all else.
type returned struct {
	f    api.Foul
	rest []any
}

// bookCalls calls each function that has a book.
func bookCalls(q question) []returned {
	o, f1 := club.Do(q.b, q.c)
	fouls, force, now, f2 := club.Play(q.b, q.l)
	ranks, f3 := club.Course(q.b, q.l, q.class)
	s, f4 := club.Write(q.b)
	yes, l, f5 := club.Ask(q.b, q.q)
	is, f6 := club.Proves(q.b, q.q, q.yes, q.list)
	reply, f7 := club.Reply(q.b, q.q)
	verdict, f8 := club.Verify(q.b, q.text)
	out, then, f9 := club.Direct(q.b, q.text)
	return []returned{{club.CheckBook(q.b), nil}, {f1, []any{o}}, {f2, []any{fouls, force, now}}, {f3, []any{ranks}}, {f4, []any{s}}, {f5, []any{yes, l}}, {f6, []any{is}}, {f7, []any{reply}}, {f8, []any{verdict}}, {f9, []any{out, then}}}
}

// otherCalls calls each function that has no book.
func otherCalls(q question) []returned {
	n, f1 := club.Sum(q.from, q.text)
	b, _, f2 := club.Read(q.text)
	s, f3 := club.WriteLog(q.l)
	l, _, f4 := club.ReadLog(q.text)
	return []returned{{club.CheckCommand(q.c), nil}, {f1, []any{n}}, {f2, []any{b}}, {f3, []any{s}}, {f4, []any{l}}}
}

func allCalls(q question) []returned {
	return slices.Concat(bookCalls(q), otherCalls(q))
}

// plainAny returns a copy of a value in which an empty list is nil.
func plainAny(x any) any { return copyDeep(reflect.ValueOf(x)).Interface() }

func sameAny(a, b any) bool { return reflect.DeepEqual(plainAny(a), plainAny(b)) }

func sameCalls(a, b []returned) bool {
	return slices.EqualFunc(a, b, func(x, y returned) bool { return x.f == y.f && slices.EqualFunc(x.rest, y.rest, sameAny) })
}

// P1, R2, R4: any arguments are answered, in the same way each time, and are not changed; beside a foul all is zero.
func TestAnyArguments(t *testing.T) {
	r := rand.New(rand.NewSource(1030))
	many := make(map[api.Foul]int)
	for range 700 {
		q := anyQuestion(t, r)
		old := question{b: plain(q.b), c: plain(q.c), l: plain(q.l), list: plain(q.list)}
		all := allCalls(q)
		for i, x := range all {
			for _, y := range x.rest {
				if x.f != api.Fair && !reflect.ValueOf(plainAny(y)).IsZero() {
					t.Fatal("a result beside a foul", i, x)
				}
			}
			many[x.f]++
		}
		if !same(q.b, old.b) || !same(q.c, old.c) || !same(q.l, old.l) || !same(q.list, old.list) {
			t.Fatal("an argument was changed", q, old)
		}
		if !sameCalls(all, allCalls(q)) {
			t.Fatal("another answer to the same question", q)
		}
	}
	for _, f := range fouls(api.Fair, api.OffLimits, api.BadCount, api.BadForm, api.BadName, api.Twice, api.Unknown, api.OutOfOrder, api.NotEnough, api.Against) {
		if many[f] < 5 {
			t.Error("too few calls had the foul", f, many[f])
		}
	}
}

// R3: nil and an empty slice are the same.
func TestNilAndEmpty(t *testing.T) {
	r := rand.New(rand.NewSource(1031))
	for range 300 {
		q := anyQuestion(t, r)
		o := q
		o.b, o.c, o.l, o.list = emptied(q.b), emptied(q.c), emptied(q.l), emptied(q.list)
		if !sameCalls(allCalls(q), allCalls(o)) {
			t.Fatal(q)
		}
	}
}

// P1: what is very long is answered.
func TestLongArguments(t *testing.T) {
	const many = 1 << 17
	b, long, zeros := exampleBook(), strings.Repeat("a", many), make([]int, many)
	if f := club.CheckCommand(give(zeros...)); f != api.BadCount {
		t.Error(f)
	}
	if _, f := club.Do(b, tell(0, zeros...)); f != api.BadCount {
		t.Error(f)
	}
	if _, f := club.Do(b, shoot(long, 9)); f != api.BadName {
		t.Error(f)
	}
	if _, _, _, f := club.Play(b, make([]api.ClubCommand, many)); f != api.BadCount {
		t.Error(f)
	}
	if _, f := club.WriteLog(make([]api.ClubCommand, many)); f != api.BadCount {
		t.Error(f)
	}
	for kind := range usedBy {
		for _, q := range []api.ClubAsk{asks(api.ClubQuestion(kind), 0, 1), asks(api.ClubQuestion(kind), 0, 1, many), asks(api.ClubQuestion(kind), 1)} {
			for _, yes := range []bool{true, false} {
				if is, _ := club.Proves(b, q, yes, zeros); is {
					t.Error(q, yes)
				}
			}
		}
	}
	// A very long way is one, if it may be.
	way := append(slices.Repeat(list(0, 1), many), 0)
	if !proved(t, b, asks(api.ClubOut, 0, 3, 80*many), true, way) || proved(t, b, asks(api.ClubOut, 0, 3, 80*many-1), true, way) {
		t.Error("a very long way")
	}
	run := slices.Concat(exampleRun, slices.Repeat(list(1, 0, 1, 0, 1, 0, 1, 1), many))
	if !proved(t, b, asks(api.ClubRisk), true, run) || proved(t, b, asks(api.ClubRisk), true, run[:len(run)-4]) {
		t.Error("a very long run")
	}
	if v, f := club.Verify(b, long); v != api.ClubWrong || f != api.BadForm {
		t.Error(v, f)
	}
}

// R4: what is returned shares no memory with what was given.
func TestResultsShareNothing(t *testing.T) {
	r := rand.New(rand.NewSource(1032))
	for range 200 {
		b := randomBook(r)
		c, l := randomCommand(r, b), randomLog(r, b, 6)
		old, oldCommand, oldList := plain(b), plain(c), plain(l)
		o, _ := club.Do(b, c)
		spoil(o)
		fouls, force, now, _ := club.Play(b, l)
		spoil(fouls)
		spoil(force)
		spoil(now)
		_, _, none, _ := club.Play(b, nil)
		spoil(none)
		ranks, _ := club.Course(b, l, 0)
		spoil(ranks)
		_, then, _ := club.Direct(b, "\n")
		spoil(then)
		_, answer, _ := club.Ask(b, randomAsk(r, b))
		spoil(answer)
		if !same(b, old) || !same(c, oldCommand) || !same(l, oldList) {
			t.Fatal("an argument was changed", b, old)
		}
	}
}

// R4: lists of a result share no memory with each other, even if those of an argument do.
func TestListsShareNothing(t *testing.T) {
	shared := list(9, 9, 9)
	b := with(func(b *api.ClubBook) {
		b.Sheet.Ends[0].Told = [][]int{shared, shared}
		b.Sheet.Ends[1] = b.Sheet.Ends[0]
		b.Round.Archers[2].Arrows = b.Round.Archers[4].Arrows
		b.Boss.Layers[1] = b.Boss.Layers[0]
		b.Bracket.Results[1].Sets = slices.Clone(b.Bracket.Results[1].Sets)
		b.Ground.Archers[0].Size = 121
	})
	for _, o := range []api.ClubBook{done(t, b, give()), done(t, b, shoot("ann", 9)), done(t, b, tell(1, 9, 9, 9))} {
		o.Sheet.Ends[0].Told[0][0], o.Sheet.Ends[0].Marks[0][0], o.Round.Archers[2].Arrows[0], o.Boss.Layers[0].Wear[0] = 777, 777, 777, 777
		if o.Sheet.Ends[0].Told[1][0] != 9 || o.Sheet.Ends[1].Told[0][0] != 9 || o.Sheet.Ends[1].Marks[0][0] != 10 || o.Round.Archers[4].Arrows[0] != 9 || o.Boss.Layers[1].Wear[0] != 5 {
			t.Error("two lists share memory")
		}
	}
	_, _, now := played(t, b, commands(give()))
	now.Sheet.Ends[0].Told[0][0] = 777
	if now.Sheet.Ends[0].Told[1][0] != 9 || shared[0] != 9 {
		t.Error("two lists share memory")
	}
}

// P1: calls at the same time answer as one after the other.
func TestCallsAtOnce(t *testing.T) {
	q := question{b: exampleBook(), c: give(1), l: exampleLog(), text: logText, q: asks(api.ClubRisk), yes: true, list: exampleRun}
	want := allCalls(q)
	var all sync.WaitGroup
	for range 8 {
		all.Go(func() {
			for range 5 {
				if !sameCalls(allCalls(q), want) {
					t.Error("another answer")
				}
			}
		})
	}
	all.Wait()
}
