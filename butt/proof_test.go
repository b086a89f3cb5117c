package butt_test

import (
	"math"
	"math/rand"
	"slices"
	"testing"

	"nock/api"
	"nock/butt"
)

// P8.4: lists of archers of the chapter's ground, and their fouls.
func TestLackExample(t *testing.T) {
	for _, x := range []struct {
		archers []int
		want    int
		f       api.Foul
	}{
		{nil, 0, api.Fair}, {list(0), 0, api.Fair}, {list(1, 2), 1, api.Fair}, {list(0, 3), 0, api.Fair}, {list(0, 3, 4), 1, api.Fair},
		{list(0, 1, 3), 0, api.Fair}, {list(0, 1, 2, 3), 1, api.Fair}, {list(0, 1, 2, 3, 4), 2, api.Fair},
		{list(5), 0, api.Unknown}, {list(-1), 0, api.Unknown}, {list(0, 5), 0, api.Unknown}, {list(math.MinInt), 0, api.Unknown}, {list(math.MaxInt), 0, api.Unknown},
		{list(1, 1), 0, api.OutOfOrder}, {list(2, 1), 0, api.OutOfOrder}, {list(0, 2, 1, 9), 0, api.OutOfOrder}, {list(2, 9, 1), 0, api.Unknown}, {list(2, -1), 0, api.Unknown}, {list(0, 1, 2, 3, 4, 4), 0, api.OutOfOrder}, {list(0, 1, 2, 3, 4, 5), 0, api.Unknown},
	} {
		if n, f := butt.Lack(exampleGround(), x.archers); n != x.want || f != x.f {
			t.Error(x, n, f)
		}
	}
	if n, f := butt.Lack(api.ButtGround{}, nil); n != 0 || f != api.Fair {
		t.Error(n, f)
	}
}

// P8.4: answers for the chapter's ground that are proved, that are not, and fouls.
func TestProvesExample(t *testing.T) {
	all := list(0, 1, 2, 3, 4)
	for _, x := range []struct {
		seats, archers []int
		want           bool
		f              api.Foul
	}{
		{list(0, 1, -1, 0, -1), all, true, api.Fair}, {list(-1, -1, 1, 0, 0), all, true, api.Fair},
		{list(0, 1, -1, 0, -1), list(1, 2), false, api.Fair}, {list(0, 1, -1, 0, -1), nil, false, api.Fair},
		// Too few archers have a stand, or they lack another number.
		{list(0, -1, -1, 0, -1), all, false, api.Fair}, {list(-1, -1, -1, -1, -1), all, false, api.Fair},
		// Too many archers are at a stand, or one who cannot use it, or at a stand that there is not.
		{list(0, -1, -1, 0, 0), all, false, api.Fair}, {list(0, 1, 1, 0, -1), list(1, 2), false, api.Fair}, {list(-1, 1, 1, 0, -1), all, false, api.Fair},
		{list(0, 2, -1, 0, -1), all, false, api.Fair}, {list(1, 1, -1, 0, -1), all, false, api.Fair}, {list(2, 1, -1, 0, -1), all, false, api.Fair},
		{list(0, 3, -1, 0, -1), all, false, api.Fair}, {list(0, 1, -2, 0, -1), all, false, api.Fair}, {list(0, math.MaxInt, -1, 0, -1), all, false, api.Fair}, {list(0, math.MinInt, -1, 0, -1), all, false, api.Fair},
		{list(0, 1, -1, 0), list(9), false, api.BadCount}, {list(0, 1, -1, 0, -1, -1), all, false, api.BadCount}, {nil, all, false, api.BadCount}, {nil, nil, false, api.BadCount},
		{list(0, 1, -1, 0, -1), list(5), false, api.Unknown}, {list(0, 1, -1, 0, -1), list(-1), false, api.Unknown}, {list(9, 1, -1, 0, -1), list(1, 5), false, api.Unknown},
		{list(0, 1, -1, 0, -1), list(1, 0), false, api.OutOfOrder}, {list(0, 1, -1, 0, -1), list(0, 0), false, api.OutOfOrder},
	} {
		if is, f := butt.Proves(exampleGround(), x.seats, x.archers); is != x.want || f != x.f {
			t.Error(x, is, f)
		}
	}
	if is, f := butt.Proves(api.ButtGround{}, nil, nil); !is || f != api.Fair {
		t.Error(is, f)
	}
}

// P8.4: of lists that lack as many the shortest one, and of these the least one.
func TestProofOfSeveral(t *testing.T) {
	two := func(first, second int) api.ButtGround {
		g := api.ButtGround{Stands: []api.ButtStand{stand("a", 50, 80, first), stand("b", 70, 80, second)}}
		for i, far := range list(50, 70, 70, 50, 50, 70) {
			g.Archers = append(g.Archers, archer(letters[i], 80, far, far))
		}
		return g
	}
	for _, x := range []struct {
		first, second int
		want          []int
	}{
		{2, 2, list(0, 1, 2, 3, 4, 5)}, {2, 3, list(0, 3, 4)}, {3, 2, list(1, 2, 5)}, {3, 3, nil}, {0, 3, list(0, 3, 4)}, {4, 0, list(1, 2, 5)},
	} {
		if l := proofOf(t, two(x.first, x.second)); !slices.Equal(l, x.want) {
			t.Error(x, l)
		}
	}
	// Who can use no stand lacks one; who shares one with too many lacks one with all of them.
	g := two(1, 1)
	g.Archers = []api.ButtArcher{archer("a", 80, 50, 70), archer("b", 80, 60, 60), archer("c", 80, 50, 50)}
	if l := proofOf(t, g); !slices.Equal(l, list(1)) {
		t.Error(l)
	}
	g.Archers[1] = archer("b", 80, 50, 50)
	// All three lack one as well, but they are more.
	if l := proofOf(t, g); !slices.Equal(l, list(1, 2)) {
		t.Error(l)
	}
}

// lessProof says whether a list is to be returned rather than another one.
func lessProof(g api.ButtGround, a, b []int) bool {
	if x, y := lackIn(g, a), lackIn(g, b); x != y {
		return x > y
	}
	if len(a) != len(b) {
		return len(a) < len(b)
	}
	return slices.Compare(a, b) < 0
}

// P8.4, P4: Lack and Proof are what they are of all lists.
func TestProofOfAllLists(t *testing.T) {
	r := rand.New(rand.NewSource(91))
	part := 0
	for range 400 {
		g := randomGround(r)
		var best []int
		for l := range allLists(len(g.Archers)) {
			if n := lackOf(t, g, l); n != lackIn(g, l) {
				t.Fatal(g, l, n)
			}
			if lessProof(g, l, best) {
				best = l
			}
		}
		if l := proofOf(t, g); !slices.Equal(l, best) {
			t.Fatal(g, l, best)
		}
		if len(best) > 0 && len(best) < len(g.Archers) {
			part++
		}
	}
	if part < 50 {
		t.Error("too few are a part of the archers", part)
	}
}

// P8.9: as many archers have no stand as those of Proof lack, and Proves accepts both; nothing that Proves accepts has fewer at stands.
func TestProofOfSeat(t *testing.T) {
	r := rand.New(rand.NewSource(92))
	accepted := 0
	for range 800 {
		g := randomGround(r)
		seats, many := seatOf(t, g)
		proof := proofOf(t, g)
		if len(g.Archers)-many != lackOf(t, g, proof) || !provesOf(t, g, seats, proof) {
			t.Fatal(g, seats, many, proof)
		}
		for range 40 {
			given, archers := randomSeats(r, g, seats), randomList(r, len(g.Archers), proof)
			want := isSeating(g, given) && len(given)-seated(given) == lackIn(g, archers)
			if is := provesOf(t, g, given, archers); is != want || is && seated(given) != many {
				t.Fatal(g, given, archers, is)
			}
			if want {
				accepted++
			}
		}
	}
	if accepted < 500 {
		t.Error("too few are accepted", accepted)
	}
}

// randomSeats returns seats some of which are changed.
func randomSeats(r *rand.Rand, g api.ButtGround, seats []int) []int {
	given := slices.Clone(seats)
	for i := range given {
		if r.Intn(4) == 0 {
			given[i] = r.Intn(len(g.Stands)+3) - 2
		}
	}
	return given
}

// randomList returns a list of some of many archers, or another one.
func randomList(r *rand.Rand, many int, other []int) []int {
	if r.Intn(2) == 0 {
		return other
	}
	var l []int
	for i := range many {
		if r.Intn(2) == 0 {
			l = append(l, i)
		}
	}
	return l
}
