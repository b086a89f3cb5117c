package butt_test

import (
	"math/rand"
	"slices"
	"testing"

	"nock/api"
)

// seatExample is what is said of a ground like that of the chapter.
type seatExample struct {
	change func(g *api.ButtGround)
	seats  []int
	many   int
	proof  []int
	lack   int
}

func seatExamples() []seatExample {
	return []seatExample{
		{func(g *api.ButtGround) {}, list(0, 1, -1, 0, -1), 3, list(0, 1, 2, 3, 4), 2},
		{func(g *api.ButtGround) { g.Archers[0].Size = 80 }, list(2, 1, -1, 0, 0), 4, list(1, 2), 1},
		{func(g *api.ButtGround) { g.Stands[0].Seats, g.Stands[1].Seats = 3, 2 }, list(0, 1, 1, 0, 0), 5, nil, 0},
		{func(g *api.ButtGround) { g.Stands[1].Seats = 2 }, list(0, 1, 1, 0, -1), 4, list(0, 3, 4), 1},
		{func(g *api.ButtGround) { g.Stands = nil }, list(-1, -1, -1, -1, -1), 0, list(0, 1, 2, 3, 4), 5},
		{func(g *api.ButtGround) { g.Archers = nil }, nil, 0, nil, 0},
		{func(g *api.ButtGround) { *g = api.ButtGround{} }, nil, 0, nil, 0},
		{func(g *api.ButtGround) { g.Stands[0].Seats = 0 }, list(-1, 1, -1, -1, -1), 1, list(0, 1, 2, 3, 4), 4},
		// Nobody can use the stand of this size, and everybody the one of that.
		{func(g *api.ButtGround) {
			g.Stands = []api.ButtStand{stand("a", 50, 10, 4), stand("b", 50, 150, 2)}
			g.Archers = g.Archers[1:3]
		}, list(1, 1), 2, nil, 0},
		// The least stand, though a greater one would do: the second archer has no other than the first one's.
		{func(g *api.ButtGround) {
			g.Stands = []api.ButtStand{stand("a", 50, 150, 1), stand("b", 60, 150, 1)}
			g.Archers = []api.ButtArcher{archer("a", 80, 50, 60), archer("b", 80, 50, 50)}
		}, list(1, 0), 2, nil, 0},
		// Of two lists of archers who lack as many the least one.
		{func(g *api.ButtGround) {
			g.Stands = []api.ButtStand{stand("a", 50, 150, 1)}
			g.Archers = []api.ButtArcher{archer("a", 80, 60, 60), archer("b", 80, 50, 50), archer("c", 80, 50, 50), archer("d", 80, 60, 60)}
		}, list(-1, 0, -1, -1), 1, list(0, 1, 2, 3), 3},
	}
}

// P8.3, P8.4: the example of the chapter, and others like it.
func TestSeatExamples(t *testing.T) {
	for i, x := range seatExamples() {
		g := withGround(x.change)
		if seats, many := seatOf(t, g); !slices.Equal(seats, x.seats) || many != x.many {
			t.Error(i, seats, many)
		}
		if l := proofOf(t, g); !slices.Equal(l, x.proof) {
			t.Error(i, l)
		}
		if n := lackOf(t, g, x.proof); n != x.lack {
			t.Error(i, n)
		}
		if !provesOf(t, g, x.seats, x.proof) {
			t.Error(i, "is not proved")
		}
	}
	for i, want := range list(1, 2, 3) {
		if n := withoutOf(t, exampleGround(), i); n != want {
			t.Error(i, n)
		}
	}
}

// seatIn returns the first of all seatings with the most archers at stands, and how many these are.
func seatIn(g api.ButtGround) (best []int, many int) {
	many = -1
	for seats := range allSeatings(g) {
		if n := seated(seats); n > many {
			best, many = slices.Clone(seats), n
		}
	}
	return best, many
}

// P8.3, P8.9, P4: Seat and Without are what they are of all seatings.
func TestSeatOfAllSeatings(t *testing.T) {
	r := rand.New(rand.NewSource(89))
	full, none := 0, 0
	for range 500 {
		g := randomGround(r)
		want, most := seatIn(g)
		seats, many := seatOf(t, g)
		if !slices.Equal(seats, want) || many != most {
			t.Fatal(g, seats, many, want, most)
		}
		for i := range g.Stands {
			o := copyGround(g)
			o.Stands = slices.Delete(o.Stands, i, i+1)
			_, left := seatIn(o)
			if n := withoutOf(t, g, i); n != left {
				t.Fatal(g, i, n, left)
			}
		}
		if many == len(g.Archers) {
			full++
		}
		if many == 0 {
			none++
		}
	}
	if full < 100 || full > 400 || none > 250 {
		t.Error("too few of a kind", full, none)
	}
}

// P8.9: one more seat, and a greater stand, never let fewer archers have one; one archer more has one more at most.
func TestSeatIsNoWorse(t *testing.T) {
	r := rand.New(rand.NewSource(90))
	bySeat, bySize, byArcher := 0, 0, 0
	for range 2500 {
		g := randomGround(r)
		_, before := seatOf(t, g)
		if len(g.Stands) > 0 {
			more, greater := copyGround(g), copyGround(g)
			more.Stands[r.Intn(len(g.Stands))].Seats++
			_, after := seatOf(t, more)
			if after < before || after > before+1 {
				t.Fatal(g, more, before, after)
			}
			bySeat += after - before
			greater.Stands[r.Intn(len(g.Stands))].Size += 1 + r.Intn(28)
			_, after = seatOf(t, greater)
			if after < before {
				t.Fatal(g, greater, before, after)
			}
			bySize += after - before
		}
		if len(g.Archers) > 0 {
			fewer := copyGround(g)
			at := r.Intn(len(g.Archers))
			fewer.Archers = slices.Delete(fewer.Archers, at, at+1)
			_, without := seatOf(t, fewer)
			if before < without || before > without+1 {
				t.Fatal(g, fewer, before, without)
			}
			byArcher += before - without
		}
	}
	if bySeat < 100 || bySize < 50 || byArcher < 100 {
		t.Error("too few are better", bySeat, bySize, byArcher)
	}
}

// P8.3, P8.9: with as many as there can be.
func TestGreatSeat(t *testing.T) {
	g := greatGround()
	if seats, many := seatOf(t, g); !slices.Equal(seats, list(0, 1, 1, 2, 2, 2)) || many != 6 {
		t.Error(seats, many)
	}
	for i := range g.Stands {
		g.Stands[i].Seats = min(i, 1)
	}
	if seats, many := seatOf(t, g); !slices.Equal(seats, list(1, 2, 3, -1, -1, -1)) || many != 3 {
		t.Error(seats, many)
	}
	if l := proofOf(t, g); !slices.Equal(l, list(0, 1, 2, 3, 4, 5)) {
		t.Error(l)
	}
}
