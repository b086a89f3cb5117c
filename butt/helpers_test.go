package butt_test

import (
	"math/rand"
	"slices"
	"testing"

	"nock/api"
	"nock/butt"
)

const (
	yes   = api.Yes
	no    = api.No
	maybe = api.Maybe
)

func list(numbers ...int) []int { return numbers }

func span(least, most int) api.Span { return api.Span{Min: least, Max: most} }

// only returns the span of one number.
func only(n int) api.Span { return span(n, n) }

// spans returns the spans of one number each.
func spans(numbers ...int) []api.Span {
	var all []api.Span
	for _, n := range numbers {
		all = append(all, only(n))
	}
	return all
}

// plan returns a plan: of each session the layer, and by how much it is turned.
func plan(numbers ...int) []api.ButtTurn {
	var p []api.ButtTurn
	for i := 0; i < len(numbers); i += 2 {
		p = append(p, api.ButtTurn{Layer: numbers[i], Turn: numbers[i+1]})
	}
	return p
}

func layer(wear ...int) api.ButtLayer { return api.ButtLayer{Wear: wear} }

func session(load ...api.Span) api.ButtSession { return api.ButtSession{Load: load} }

func stand(name string, far, size, seats int) api.ButtStand {
	return api.ButtStand{Name: name, Far: far, Size: size, Seats: seats}
}

func archer(name string, size, near, far int) api.ButtArcher {
	return api.ButtArcher{Name: name, Size: size, Near: near, Far: far}
}

// exampleBoss is the boss B of the chapter.
func exampleBoss() api.ButtBoss {
	return api.ButtBoss{
		Layers: []api.ButtLayer{layer(5, 0, 9, 3), layer(12, 12, 0, 0)},
		Sessions: []api.ButtSession{
			session(only(8), only(4), span(0, 2), only(0)),
			session(only(6), span(6, 7), only(0), only(0)),
		},
		Limit: 20, Swaps: 1,
	}
}

func withBoss(change func(b *api.ButtBoss)) api.ButtBoss {
	b := exampleBoss()
	change(&b)
	return b
}

// exampleGround is the ground G of the chapter.
func exampleGround() api.ButtGround {
	return api.ButtGround{
		Stands: []api.ButtStand{stand("s", 70, 122, 2), stand("t", 50, 80, 1), stand("u", 70, 80, 1)},
		Archers: []api.ButtArcher{
			archer("ann", 122, 60, 90), archer("bob", 80, 40, 60), archer("cid", 80, 50, 50),
			archer("dot", 122, 70, 70), archer("eve", 122, 70, 90),
		},
	}
}

func withGround(change func(g *api.ButtGround)) api.ButtGround {
	g := exampleGround()
	change(&g)
	return g
}

// greatBoss is as great as a boss may be.
func greatBoss() api.ButtBoss {
	b := api.ButtBoss{Limit: 9999, Swaps: 4}
	for i := range 3 {
		b.Layers = append(b.Layers, layer(999, 999-i, i, 0))
	}
	for i := range 4 {
		b.Sessions = append(b.Sessions, session(span(0, 999), only(999), span(i, 998), only(i)))
	}
	return b
}

var letters = []string{"a", "b", "c", "d", "e", "f"}

// greatGround is as great as a ground may be.
func greatGround() api.ButtGround {
	var g api.ButtGround
	for i := range 4 {
		g.Stands = append(g.Stands, stand(letters[i]+"bcdefghij09", 90, 150, i+1))
	}
	for i := range 6 {
		g.Archers = append(g.Archers, archer(letters[i]+"bcdefghij09", 150, 1+i*17, 90))
	}
	return g
}

func sameLayer(a, b api.ButtLayer) bool { return slices.Equal(a.Wear, b.Wear) }

func sameSession(a, b api.ButtSession) bool { return slices.Equal(a.Load, b.Load) }

func sameBoss(a, b api.ButtBoss) bool {
	return slices.EqualFunc(a.Layers, b.Layers, sameLayer) && slices.EqualFunc(a.Sessions, b.Sessions, sameSession) && a.Limit == b.Limit && a.Swaps == b.Swaps
}

func sameGround(a, b api.ButtGround) bool {
	return slices.Equal(a.Stands, b.Stands) && slices.Equal(a.Archers, b.Archers)
}

func copyBoss(b api.ButtBoss) api.ButtBoss {
	b.Layers, b.Sessions = slices.Clone(b.Layers), slices.Clone(b.Sessions)
	for i, l := range b.Layers {
		b.Layers[i].Wear = slices.Clone(l.Wear)
	}
	for i, s := range b.Sessions {
		b.Sessions[i].Load = slices.Clone(s.Load)
	}
	return b
}

func copyGround(g api.ButtGround) api.ButtGround {
	return api.ButtGround{Stands: slices.Clone(g.Stands), Archers: slices.Clone(g.Archers)}
}

// fair stops a test if there is a foul.
func fair(t *testing.T, f api.Foul) {
	t.Helper()
	if f != api.Fair {
		t.Fatal("foul", f)
	}
}

func afterOf(t *testing.T, b api.ButtBoss, p []api.ButtTurn, n int) [][]api.Span {
	t.Helper()
	l, f := butt.After(b, p, n)
	fair(t, f)
	return l
}

func worstOf(t *testing.T, b api.ButtBoss, p []api.ButtTurn) api.Span {
	t.Helper()
	x, f := butt.Worst(b, p)
	fair(t, f)
	return x
}

func holdsOf(t *testing.T, b api.ButtBoss, p []api.ButtTurn) api.Sure {
	t.Helper()
	x, f := butt.Holds(b, p)
	fair(t, f)
	return x
}

func spreadOf(t *testing.T, b api.ButtBoss, p []api.ButtTurn, layer int) api.Span {
	t.Helper()
	x, f := butt.Spread(b, p, layer)
	fair(t, f)
	return x
}

// replaced is what Replace returns.
type replaced struct {
	n, layer int
	found    bool
}

func replaceOf(t *testing.T, b api.ButtBoss, p []api.ButtTurn) replaced {
	t.Helper()
	n, layer, found, f := butt.Replace(b, p)
	fair(t, f)
	return replaced{n, layer, found}
}

func bestOf(t *testing.T, b api.ButtBoss) (p []api.ButtTurn, worst int) {
	t.Helper()
	p, worst, f := butt.Best(b)
	fair(t, f)
	return p, worst
}

func swapsOf(t *testing.T, b api.ButtBoss) (n int, found bool) {
	t.Helper()
	n, found, f := butt.Swaps(b)
	fair(t, f)
	return n, found
}

func canOf(t *testing.T, g api.ButtGround, archer int) []int {
	t.Helper()
	l, f := butt.Can(g, archer)
	fair(t, f)
	return l
}

func seatOf(t *testing.T, g api.ButtGround) (seats []int, many int) {
	t.Helper()
	seats, many, f := butt.Seat(g)
	fair(t, f)
	return seats, many
}

func lackOf(t *testing.T, g api.ButtGround, archers []int) int {
	t.Helper()
	n, f := butt.Lack(g, archers)
	fair(t, f)
	return n
}

func proofOf(t *testing.T, g api.ButtGround) []int {
	t.Helper()
	l, f := butt.Proof(g)
	fair(t, f)
	return l
}

func provesOf(t *testing.T, g api.ButtGround, seats, archers []int) bool {
	t.Helper()
	is, f := butt.Proves(g, seats, archers)
	fair(t, f)
	return is
}

func withoutOf(t *testing.T, g api.ButtGround, stand int) int {
	t.Helper()
	n, f := butt.Without(g, stand)
	fair(t, f)
	return n
}

// pick returns one of some elements.
func pick[T any](r *rand.Rand, all []T) T { return all[r.Intn(len(all))] }

// isIn says whether a number is one of a span.
func isIn(n int, x api.Span) bool { return x.Min <= n && n <= x.Max }

// isPartOf says whether all numbers of a span are in another one.
func isPartOf(a, b api.Span) bool { return b.Min <= a.Min && a.Max <= b.Max }

// scale is how great a random boss is: how many layers and sessions it has at most, how great its numbers are, and how many of its loads are spans of how many numbers more than one.
type scale struct{ layers, sessions, most, open, wide int }

var (
	small  = scale{3, 3, 9, 5, 2}
	tiny   = scale{3, 2, 5, 4, 2}
	middle = scale{3, 4, 20, 16, 9}
	great  = scale{3, 4, 999, 16, 999}
)

// randomNumbers returns four numbers from 0 to most, which are often the same.
func randomNumbers(r *rand.Rand, most int) []int {
	var all []int
	for range 4 {
		all = append(all, r.Intn(most+1))
		if r.Intn(3) == 0 {
			all[len(all)-1] = all[0]
		}
	}
	return all
}

func randomBoss(r *rand.Rand, s scale) api.ButtBoss {
	b := api.ButtBoss{Limit: r.Intn(2*s.most + 1), Swaps: r.Intn(5)}
	for range 1 + r.Intn(s.layers) {
		l := layer(randomNumbers(r, s.most)...)
		if len(b.Layers) > 0 && r.Intn(3) == 0 {
			l = layer(slices.Clone(pick(r, b.Layers).Wear)...)
		}
		b.Layers = append(b.Layers, l)
	}
	for range r.Intn(s.sessions + 1) {
		b.Sessions = append(b.Sessions, session(spans(randomNumbers(r, s.most)...)...))
	}
	if len(b.Sessions) > 0 {
		for range r.Intn(s.open + 1) {
			x := &pick(r, b.Sessions).Load[r.Intn(4)]
			x.Max = min(x.Min+r.Intn(s.wide+1), api.MaxButtWear)
		}
	}
	return b
}

// swapsIn returns how many sessions of a plan have another layer than the one before.
func swapsIn(p []api.ButtTurn) int {
	many := 0
	for i, t := range p {
		if i == 0 && t.Layer != 0 || i > 0 && t.Layer != p[i-1].Layer {
			many++
		}
	}
	return many
}

// randomPlan returns a plan that has no fouls.
func randomPlan(r *rand.Rand, b api.ButtBoss) []api.ButtTurn {
	for range 20 {
		var p []api.ButtTurn
		for range b.Sessions {
			p = append(p, api.ButtTurn{Layer: r.Intn(len(b.Layers)), Turn: r.Intn(4)})
		}
		if swapsIn(p) <= b.Swaps {
			return p
		}
	}
	return make([]api.ButtTurn, len(b.Sessions))
}

// randomGround returns a ground most of whose archers can use a stand.
func randomGround(r *rand.Rand) api.ButtGround {
	var g api.ButtGround
	fars, sizes := list(30, 50, 60, 70), list(60, 80, 80, 122)
	for i := range min(r.Intn(6), 4) {
		g.Stands = append(g.Stands, stand(letters[i], pick(r, fars), pick(r, sizes), r.Intn(4)))
	}
	for i := range r.Intn(7) {
		near, far := r.Intn(len(fars)), r.Intn(len(fars))
		g.Archers = append(g.Archers, archer(letters[i], pick(r, sizes), fars[min(near, far)]-r.Intn(2), fars[max(near, far)]))
	}
	return g
}
