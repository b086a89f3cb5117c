package butt_test

import (
	"math/rand"
	"slices"
	"testing"

	"nock/api"
)

// narrowed returns a boss some of whose loads are known better.
func narrowed(r *rand.Rand, b api.ButtBoss) api.ButtBoss {
	o := copyBoss(b)
	for _, s := range o.Sessions {
		for i, x := range s.Load {
			if r.Intn(2) == 0 {
				least := x.Min + r.Intn(x.Max-x.Min+1)
				s.Load[i] = span(least, least+r.Intn(x.Max-least+1))
			}
		}
	}
	return o
}

// P8.6, P3: loads that are known better never add anything that could be, and never take back what was certain.
func TestNarrowerLoads(t *testing.T) {
	r := rand.New(rand.NewSource(94))
	surer := 0
	for range 2000 {
		b := randomBoss(r, pick(r, []scale{small, middle, great}))
		p := randomPlan(r, b)
		if r.Intn(2) == 0 {
			b = nearLimit(t, r, b, p)
		}
		o := narrowed(r, b)
		before, after := afterOf(t, b, p, len(p)), afterOf(t, o, p, len(p))
		for i := range before {
			for q, x := range before[i] {
				if !isPartOf(after[i][q], x) {
					t.Fatal(b, o, p, i, q)
				}
			}
			if !isPartOf(spreadOf(t, o, p, i), spreadOf(t, b, p, i)) {
				t.Fatal(b, o, p, i)
			}
		}
		if !isPartOf(worstOf(t, o, p), worstOf(t, b, p)) {
			t.Fatal(b, o, p)
		}
		was, is := holdsOf(t, b, p), holdsOf(t, o, p)
		if was != maybe && is != was {
			t.Fatal(b, o, p, was, is)
		}
		if is != was {
			surer++
		}
		x, y := replaceOf(t, b, p), replaceOf(t, o, p)
		if y.found && (!x.found || y.n < x.n) {
			t.Fatal(b, o, p, x, y)
		}
	}
	if surer < 50 {
		t.Error("too few are news", surer)
	}
}

// P8.6: whatever the real loads are, what is returned contains what is so.
func TestRealLoads(t *testing.T) {
	r := rand.New(rand.NewSource(95))
	for range 1500 {
		b := randomBoss(r, pick(r, []scale{middle, great}))
		p := randomPlan(r, b)
		if r.Intn(2) == 0 {
			b = nearLimit(t, r, b, p)
		}
		var real loads
		for _, s := range b.Sessions {
			for _, x := range s.Load {
				real = append(real, x.Min+r.Intn(x.Max-x.Min+1))
			}
		}
		most := greatestIn(b, p, real)
		if x := worstOf(t, b, p); !isIn(most, x) {
			t.Fatal(b, p, real, x)
		}
		if x := holdsOf(t, b, p); x == yes && most > b.Limit || x == no && most <= b.Limit {
			t.Fatal(b, p, real, x)
		}
		after := afterOf(t, b, p, len(p))
		for i, wear := range wearIn(b, p, len(p), real) {
			for q, n := range wear {
				if !isIn(n, after[i][q]) {
					t.Fatal(b, p, real, i, q)
				}
			}
			if x := spreadOf(t, b, p, i); !isIn(slices.Max(wear)-slices.Min(wear), x) {
				t.Fatal(b, p, real, i, x)
			}
		}
	}
}

// mixedGround returns a ground whose archers and stands have another order, and where those of the first one are now.
func mixedGround(r *rand.Rand, g api.ButtGround) (o api.ButtGround, archers, stands []int) {
	archers, stands = r.Perm(len(g.Archers)), r.Perm(len(g.Stands))
	o = copyGround(g)
	for from, to := range archers {
		o.Archers[to] = g.Archers[from]
	}
	for from, to := range stands {
		o.Stands[to] = g.Stands[from]
	}
	return o, archers, stands
}

// moved returns where some indexes are now, ascending.
func moved(indexes, to []int) []int {
	var l []int
	for _, i := range indexes {
		l = append(l, to[i])
	}
	slices.Sort(l)
	return l
}

// movedSeats returns the seats as they are with archers and stands in another order.
func movedSeats(seats, archers, stands []int) []int {
	l := make([]int, len(seats))
	for i, stand := range seats {
		l[archers[i]] = stand
		if stand >= 0 {
			l[archers[i]] = stands[stand]
		}
	}
	return l
}

// P8.10, P5: the order of archers and stands changes no more than their indexes.
func TestAnyOrder(t *testing.T) {
	r := rand.New(rand.NewSource(96))
	for range 1000 {
		g := randomGround(r)
		o, archers, stands := mixedGround(r, g)
		for i := range g.Archers {
			if l := canOf(t, o, archers[i]); !slices.Equal(l, moved(canOf(t, g, i), stands)) {
				t.Fatal(g, o, i, l)
			}
		}
		for i := range g.Stands {
			if withoutOf(t, g, i) != withoutOf(t, o, stands[i]) {
				t.Fatal(g, o, i)
			}
		}
		seats, many := seatOf(t, g)
		if _, other := seatOf(t, o); other != many {
			t.Fatal(g, o, many, other)
		}
		// The fewest archers whose lack is the greatest are always the same ones.
		proof := moved(proofOf(t, g), archers)
		if l := proofOf(t, o); !slices.Equal(l, proof) {
			t.Fatal(g, o, l, proof)
		}
		if !provesOf(t, o, movedSeats(seats, archers, stands), proof) {
			t.Fatal(g, o, seats, proof)
		}
		some := randomList(r, len(g.Archers), nil)
		if lackOf(t, g, some) != lackOf(t, o, moved(some, archers)) {
			t.Fatal(g, o, some)
		}
	}
}
