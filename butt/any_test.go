package butt_test

import (
	"math"
	"math/rand"
	"reflect"
	"slices"
	"testing"

	"nock/api"
	"nock/butt"
)

// anyNumber returns a number that may be of every kind: great, at a limit, or below 0.
func anyNumber(r *rand.Rand) int {
	return pick(r, list(0, 0, 1, 1, 2, 3, 4, 5, 6, 7, 63, 64, 90, 91, 150, 151, 255, 256, 999, 1000, 9999, 10000, -1, -2, -90, math.MinInt, math.MaxInt))
}

func anyNumbers(r *rand.Rand, most int) []int {
	var all []int
	for range r.Intn(most + 1) {
		all = append(all, anyNumber(r))
	}
	return all
}

func anyName(r *rand.Rand) string {
	return pick(r, []string{"", "a", "b", "B", "1", "a1", "a\n", "\xff", "abcdefghij01", "abcdefghij012"})
}

func anySpan(r *rand.Rand) api.Span { return span(anyNumber(r), anyNumber(r)) }

// anyBoss returns a boss that has fouls often.
func anyBoss(r *rand.Rand) api.ButtBoss {
	b := randomBoss(r, pick(r, []scale{small, middle, great}))
	switch r.Intn(16) {
	case 0:
		b.Limit = anyNumber(r)
	case 1:
		b.Swaps = anyNumber(r)
	case 2:
		b.Layers = append(b.Layers, layer(anyNumbers(r, 5)...))
	case 3:
		b.Layers = slices.Repeat(b.Layers, r.Intn(3))
	case 4:
		pick(r, b.Layers).Wear[r.Intn(4)] = anyNumber(r)
	case 5:
		b.Sessions = append(b.Sessions, session(spans(anyNumbers(r, 5)...)...))
	case 6:
		b.Sessions = append(b.Sessions, session(anySpan(r), anySpan(r), anySpan(r), anySpan(r)))
	case 7:
		b.Sessions = slices.Repeat(b.Sessions, 3)
	}
	return b
}

// anyGround returns a ground that has fouls often.
func anyGround(r *rand.Rand) api.ButtGround {
	g := randomGround(r)
	switch r.Intn(12) {
	case 0, 1:
		g.Stands = append(g.Stands, stand(anyName(r), anyNumber(r), anyNumber(r), anyNumber(r)))
	case 2, 3:
		g.Archers = append(g.Archers, archer(anyName(r), anyNumber(r), anyNumber(r), anyNumber(r)))
	case 4:
		g.Stands = slices.Repeat(g.Stands, 2)
	case 5:
		g.Archers = slices.Repeat(g.Archers, 2)
	}
	return g
}

// zero says whether results, and lists in them, are as they must be beside a foul.
func zero(results ...any) bool {
	for _, x := range results {
		if v := reflect.ValueOf(x); !v.IsZero() && (v.Kind() != reflect.Slice || v.Len() > 0) {
			return false
		}
	}
	return true
}

// result is what a call returned: its foul, and all else.
type result struct {
	f    api.Foul
	rest []any
}

// question is what calls are given.
type question struct {
	b              api.ButtBoss
	p              []api.ButtTurn
	n, layer       int
	g              api.ButtGround
	archer, stand  int
	seats, archers []int
}

// anyPlan returns a plan that has fouls often.
func anyPlan(r *rand.Rand, b api.ButtBoss) []api.ButtTurn {
	if r.Intn(4) == 0 {
		return make([]api.ButtTurn, r.Intn(6))
	}
	p := make([]api.ButtTurn, len(b.Sessions))
	for i := range p {
		p[i] = api.ButtTurn{Layer: r.Intn(2), Turn: r.Intn(4)}
	}
	if len(p) > 0 && r.Intn(3) == 0 {
		p[r.Intn(len(p))] = api.ButtTurn{Layer: anyNumber(r), Turn: anyNumber(r)}
	}
	return p
}

func anyQuestion(r *rand.Rand) question {
	q := question{b: anyBoss(r), n: r.Intn(3), layer: r.Intn(2), g: anyGround(r), archer: r.Intn(3), stand: r.Intn(2)}
	q.p = anyPlan(r, q.b)
	q.archers = randomList(r, len(q.g.Archers), nil)
	for range q.g.Archers {
		q.seats = append(q.seats, r.Intn(6)-2)
	}
	switch r.Intn(8) {
	case 0:
		q.n, q.layer, q.archer, q.stand = anyNumber(r), anyNumber(r), anyNumber(r), anyNumber(r)
	case 1:
		q.seats = anyNumbers(r, 7)
	case 2:
		q.archers = anyNumbers(r, 4)
	case 3:
		q.archers = list(r.Intn(3), r.Intn(3), r.Intn(3))
	}
	return q
}

func (q question) copied() question {
	q.b, q.g, q.p = copyBoss(q.b), copyGround(q.g), slices.Clone(q.p)
	q.seats, q.archers = slices.Clone(q.seats), slices.Clone(q.archers)
	return q
}

// bossCalls calls each function with a boss alone.
func bossCalls(q question) []result {
	p, worst, f1 := butt.Best(q.b)
	n, found, f2 := butt.Swaps(q.b)
	return []result{{butt.CheckBoss(q.b), nil}, {f1, []any{p, worst}}, {f2, []any{n, found}}}
}

// planCalls calls each function with a plan: After and Spread are the last ones.
func planCalls(q question) []result {
	worst, f1 := butt.Worst(q.b, q.p)
	holds, f2 := butt.Holds(q.b, q.p)
	n, layer, found, f3 := butt.Replace(q.b, q.p)
	after, f4 := butt.After(q.b, q.p, q.n)
	spread, f5 := butt.Spread(q.b, q.p, q.layer)
	return []result{{butt.CheckPlan(q.b, q.p), nil}, {f1, []any{worst}}, {f2, []any{holds}}, {f3, []any{n, layer, found}}, {f4, []any{after}}, {f5, []any{spread}}}
}

// groundCalls calls each function with a ground alone.
func groundCalls(q question) []result {
	seats, many, f1 := butt.Seat(q.g)
	proof, f2 := butt.Proof(q.g)
	return []result{{butt.CheckGround(q.g), nil}, {f1, []any{seats, many}}, {f2, []any{proof}}}
}

// otherCalls calls each function with more than a ground, and Print.
func otherCalls(q question) []result {
	can, f1 := butt.Can(q.g, q.archer)
	many, f2 := butt.Without(q.g, q.stand)
	lack, f3 := butt.Lack(q.g, q.archers)
	is, f4 := butt.Proves(q.g, q.seats, q.archers)
	text, f5 := butt.Print(q.b, q.g)
	return []result{{f1, []any{can}}, {f2, []any{many}}, {f3, []any{lack}}, {f4, []any{is}}, {f5, []any{text}}}
}

func allCalls(q question) []result {
	return slices.Concat(bossCalls(q), planCalls(q), groundCalls(q), otherCalls(q))
}

// orElse returns the first foul of some.
func orElse(fouls ...api.Foul) api.Foul {
	for _, f := range fouls {
		if f != api.Fair {
			return f
		}
	}
	return api.Fair
}

// unless returns a foul unless something is so.
func unless(is bool, f api.Foul) api.Foul {
	if is {
		return api.Fair
	}
	return f
}

// planFoul returns the foul of a plan of a boss that has none.
func planFoul(b api.ButtBoss, p []api.ButtTurn) api.Foul {
	f := unless(len(p) == len(b.Sessions), api.BadCount)
	for _, t := range p {
		f = orElse(f, unless(isIn(t.Layer, span(0, len(b.Layers)-1)), api.Unknown), unless(isIn(t.Turn, span(0, 3)), api.OffLimits))
	}
	return orElse(f, unless(swapsIn(p) <= b.Swaps, api.Against))
}

// listFoul returns the foul of a list of archers.
func listFoul(g api.ButtGround, archers []int) api.Foul {
	f := api.Fair
	for i, n := range archers {
		f = orElse(f, unless(isIn(n, span(0, len(g.Archers)-1)), api.Unknown), unless(i == 0 || n > archers[i-1], api.OutOfOrder))
	}
	return f
}

// wantedFouls returns the fouls of all calls, if those of the boss and the ground are known.
func wantedFouls(q question, f1, f2 api.Foul) []api.Foul {
	p := orElse(f1, planFoul(q.b, q.p))
	n := orElse(p, unless(isIn(q.n, span(0, len(q.b.Sessions))), api.OffLimits))
	layer := orElse(p, unless(isIn(q.layer, span(0, len(q.b.Layers)-1)), api.Unknown))
	archer := orElse(f2, unless(isIn(q.archer, span(0, len(q.g.Archers)-1)), api.Unknown))
	stand := orElse(f2, unless(isIn(q.stand, span(0, len(q.g.Stands)-1)), api.Unknown))
	archers := listFoul(q.g, q.archers)
	proves := orElse(f2, unless(len(q.seats) == len(q.g.Archers), api.BadCount), archers)
	return []api.Foul{f1, f1, f1, p, p, p, p, n, layer, f2, f2, f2, archer, stand, orElse(f2, archers), proves, orElse(f1, f2)}
}

// P1, R1, R4: any arguments are answered, in the same way each time, and are not changed.
func TestAnyArguments(t *testing.T) {
	r := rand.New(rand.NewSource(97))
	many := make(map[api.Foul]int)
	for range 800 {
		q := anyQuestion(r)
		old := q.copied()
		results := allCalls(q)
		want := wantedFouls(q, butt.CheckBoss(q.b), butt.CheckGround(q.g))
		for i, x := range results {
			if x.f != api.Fair && !zero(x.rest...) {
				t.Fatal("results beside a foul", q, i, x)
			}
			if x.f != want[i] {
				t.Fatal("another foul", q, i, x, want[i])
			}
			many[x.f]++
		}
		if !reflect.DeepEqual(q, old) {
			t.Fatal("an argument was changed", q, old)
		}
		if !reflect.DeepEqual(results, allCalls(q)) {
			t.Fatal("another answer to the same question", q)
		}
	}
	for _, f := range []api.Foul{api.Fair, api.OffLimits, api.BadCount, api.BadName, api.Twice, api.Unknown, api.OutOfOrder, api.Against} {
		if many[f] < 20 {
			t.Error("too few calls had the foul", f, many[f])
		}
	}
}

// P1: what is very long is answered.
func TestLongArguments(t *testing.T) {
	const many = 1 << 17
	long := make([]int, many)
	for _, b := range []api.ButtBoss{
		withBoss(func(b *api.ButtBoss) { b.Layers = make([]api.ButtLayer, many) }),
		withBoss(func(b *api.ButtBoss) { b.Layers[1].Wear = long }),
		withBoss(func(b *api.ButtBoss) { b.Sessions = make([]api.ButtSession, many) }),
		withBoss(func(b *api.ButtBoss) { b.Sessions[1].Load = make([]api.Span, many) }),
	} {
		for i, x := range allCalls(question{b: b})[:9] {
			if x.f != api.BadCount {
				t.Error(i, x.f)
			}
		}
	}
	for want, g := range map[api.Foul]api.ButtGround{
		api.BadCount: withGround(func(g *api.ButtGround) { g.Stands, g.Archers = nil, make([]api.ButtArcher, many) }),
		api.BadName:  withGround(func(g *api.ButtGround) { g.Archers[4].Name = string(make([]byte, many)) }),
	} {
		for i, x := range allCalls(question{b: exampleBoss(), g: g})[9:] {
			if x.f != want {
				t.Error(i, x.f)
			}
		}
	}
	if f := butt.CheckPlan(exampleBoss(), make([]api.ButtTurn, many)); f != api.BadCount {
		t.Error(f)
	}
	if is, f := butt.Proves(exampleGround(), long, long); is || f != api.BadCount {
		t.Error(is, f)
	}
	if n, f := butt.Lack(exampleGround(), long); n != 0 || f != api.OutOfOrder {
		t.Error(n, f)
	}
}

// P1: any text is answered.
func TestAnyText(t *testing.T) {
	r := rand.New(rand.NewSource(98))
	some := []string{head, layer1, session1, ground1, stand1, archer1, whole, "boss ", "layer ", "session ", "ground ", "stand ", "archer ", "a ", " ", " ", "\n", "\n", "1", "2", "/", "..", "0", "-", "-1", "3..4", "\xff", "\x00", "999999999"}
	for range 5000 {
		text := ""
		if r.Intn(2) == 0 {
			text = whole
		}
		for range r.Intn(20) {
			text += pick(r, some)
		}
		b, g, n, f := butt.Parse(text)
		if f != api.Fair && (!sameBoss(b, api.ButtBoss{}) || !sameGround(g, api.ButtGround{})) || f != api.BadForm && n != 0 {
			t.Fatalf("%q: %v %v %d %d", text, b, g, n, f)
		}
		if f == api.Fair && (butt.CheckBoss(b) != api.Fair || butt.CheckGround(g) != api.Fair) {
			t.Fatalf("%q: %v %v", text, b, g)
		}
	}
}

// emptied returns a question whose lists are empty, but not nil, where those of another one are nil.
func emptied(q question) question {
	o := q.copied()
	o.b.Layers, o.b.Sessions = append([]api.ButtLayer{}, o.b.Layers...), append([]api.ButtSession{}, o.b.Sessions...)
	for i, l := range o.b.Layers {
		o.b.Layers[i].Wear = append([]int{}, l.Wear...)
	}
	for i, s := range o.b.Sessions {
		o.b.Sessions[i].Load = append([]api.Span{}, s.Load...)
	}
	o.g.Stands, o.g.Archers = append([]api.ButtStand{}, o.g.Stands...), append([]api.ButtArcher{}, o.g.Archers...)
	o.p, o.seats, o.archers = append([]api.ButtTurn{}, o.p...), append([]int{}, o.seats...), append([]int{}, o.archers...)
	return o
}

// sameRest compares results; nil and empty lists are the same.
func sameRest(a, b any) bool {
	return zero(a) && zero(b) || reflect.DeepEqual(a, b)
}

// R3: nil and an empty slice are the same.
func TestNilAndEmpty(t *testing.T) {
	r := rand.New(rand.NewSource(99))
	for range 300 {
		q := anyQuestion(r)
		switch r.Intn(4) {
		case 0:
			q.b.Sessions, q.p = nil, nil
		case 1:
			q.g.Stands = nil
		case 2:
			q.g.Archers, q.seats, q.archers = nil, nil, nil
		}
		x, y := allCalls(q), allCalls(emptied(q))
		for i := range x {
			if x[i].f != y[i].f || !slices.EqualFunc(x[i].rest, y[i].rest, sameRest) {
				t.Fatal(q, i, x[i], y[i])
			}
		}
	}
}

// R4: answers share no memory with arguments, nor with each other, nor do two lists of one.
func TestResultsShareNothing(t *testing.T) {
	b, g := exampleBoss(), exampleGround()
	p, archers := plan(0, 1, 0, 3), list(1, 2)
	for range 2 {
		l := afterOf(t, b, p, 0)
		best, _ := bestOf(t, b)
		seats, _ := seatOf(t, g)
		proof, can := proofOf(t, g), canOf(t, g, 0)
		if l[0][3] != only(3) || l[1][0] != only(12) || best[1] != (api.ButtTurn{Layer: 1, Turn: 2}) || !provesOf(t, g, seats, proof) || !slices.Equal(can, list(0)) {
			t.Fatal(l, best, seats, proof, can)
		}
		_ = append(l[0], only(77))
		l[0][3], best[1].Turn, seats[0], proof[0], can[0] = only(7), 7, 7, 7, 7
		if l[1][0] != only(12) {
			t.Fatal("two lists share memory", l)
		}
		if lackOf(t, g, archers) != 1 || !sameBoss(b, exampleBoss()) || !sameGround(g, exampleGround()) || !slices.Equal(p, plan(0, 1, 0, 3)) || !slices.Equal(archers, list(1, 2)) {
			t.Fatal("an argument was changed", b, g, p, archers)
		}
	}
	read, _, _, f := butt.Parse(exampleText)
	fair(t, f)
	_ = append(read.Layers[0].Wear, 77)
	_ = append(read.Sessions[0].Load, only(77))
	read.Layers[0].Wear[3], read.Sessions[0].Load[3] = 77, only(77)
	if read.Layers[1].Wear[0] != 12 || read.Sessions[1].Load[0] != only(6) {
		t.Fatal("two lists share memory", read)
	}
}
