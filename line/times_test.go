package line_test

import (
	"math/rand"
	"slices"
	"testing"

	"nock/api"
	"nock/line"
)

func shot(x api.Span, number int) api.LineShot { return api.LineShot{At: x, Number: number} }

// P6.4: the examples of the chapter, and others that are done by hand.
func TestTimesByHand(t *testing.T) {
	alone := func(open, shut, count, extra int, shots ...api.LineShot) api.LineWatch {
		return api.LineWatch{Open: open, Shut: shut, Count: count, Archers: []api.LineArcher{{Name: "a", Extra: extra, Shots: shots}}}
	}
	for _, x := range []struct {
		w      api.LineWatch
		archer int
		want   watched
	}{
		{exampleWatch(), 0, watched{[]api.Span{span(5, 12), span(20, 20), span(20, 30), span(45, 60)}, nil, list(0), nil, list(3), list(17, 27), 10, true}},
		{exampleWatch(), 1, watched{[]api.Span{span(65, 65)}, nil, nil, nil, nil, list(7), 15, true}},
		{alone(5, 9, 1, 0), 0, watched{points: list(0), found: true}},
		// The limits themselves are in time.
		{alone(5, 9, 6, 3, shot(span(5, 5), 1), shot(span(12, 12), 2)), 0, watched{[]api.Span{span(5, 5), span(12, 12)}, nil, nil, nil, nil, list(3), 3, true}},
		{alone(5, 9, 6, 3, shot(span(4, 4), 1), shot(span(13, 13), 2)), 0, watched{[]api.Span{span(4, 4), span(13, 13)}, list(0), list(0), list(1), list(1), list(0), 4, true}},
		// An inner ten is lost before a ten, but both are worth as much.
		{alone(5, 9, 6, 0, shot(span(4, 4), 1), shot(span(6, 6), 11), shot(span(7, 7), 10)), 0, watched{[]api.Span{span(4, 4), span(6, 6), span(7, 7)}, list(0), list(0), nil, nil, list(11), 0, true}},
		// What is too much counts only if lower numbers lack.
		{alone(5, 9, 2, 0, shot(span(6, 6), 9), shot(span(6, 6), 0), shot(span(6, 10), 11), shot(span(9, 10), 3)), 0, watched{[]api.Span{span(6, 6), span(6, 6), span(6, 10), span(9, 10)}, nil, nil, nil, list(2, 3), list(3), 1, true}},
		// A shot cannot be late alone if one after it is in time.
		{alone(5, 9, 6, 0, shot(span(6, 12), 1), shot(span(6, 9), 2)), 0, watched{[]api.Span{span(6, 9), span(6, 9)}, nil, nil, nil, nil, list(3), 0, true}},
		// Two shots are early both, or not at all: the points without one of them are of no truth.
		{alone(5, 9, 6, 0, shot(span(0, 9), 4), shot(span(0, 0), 2), shot(span(6, 9), 1)), 0, watched{[]api.Span{span(0, 0), span(0, 0), span(6, 9)}, list(0, 1), list(0, 1), nil, nil, list(1), 0, true}},
		{alone(0, 5, 6, 0, shot(span(0, 305), 11), shot(span(0, 306), 11)), 0, watched{[]api.Span{span(0, 305), span(0, 306)}, nil, nil, nil, list(0, 1), list(0, 10, 20), 0, false}},
		{alone(0, 5, 6, 0, shot(span(0, 305), 11), shot(span(0, 305), 11)), 0, watched{[]api.Span{span(0, 305), span(0, 305)}, nil, nil, nil, list(0, 1), list(0, 10, 20), 300, true}},
	} {
		if o := watchOf(t, x.w, x.archer); !o.same(x.want) {
			t.Error(x.w, x.archer, o, x.want)
		}
	}
}

// P6.4, P6.9: all that is said of random archers, by all truths.
func TestTimesByTruths(t *testing.T) {
	r := rand.New(rand.NewSource(41))
	several := 0
	for range 1500 {
		w := randomWatch(r, 5, 12, 4)
		for i, a := range w.Archers {
			want := wantedWatched(w, a)
			if o := watchOf(t, w, i); !o.same(want) {
				t.Fatal(w, i, o, want)
			}
			if len(want.points) > 2 {
				several++
			}
		}
	}
	if several < 100 {
		t.Error("too few archers have several points", several)
	}
}

// randomTimes returns times of a truth of an archer.
func randomTimes(r *rand.Rand, times []api.Span) []int {
	var all []int
	least := 0
	for _, x := range times {
		least = max(least, x.Min)
		least += r.Intn(x.Max - least + 1)
		if r.Intn(3) == 0 {
			least = max(x.Min, slices.Max(append(slices.Clone(all), 0)))
		}
		all = append(all, least)
	}
	return all
}

// P6.9: whatever the real times are, in wide spans too, they are as is said.
func TestRealTimes(t *testing.T) {
	r := rand.New(rand.NewSource(42))
	for range 2000 {
		w := randomWatch(r, 6, 1000, 1+r.Intn(200))
		for i, a := range w.Archers {
			o := watchOf(t, w, i)
			real := randomTimes(r, o.times)
			early, late := []int(nil), []int(nil)
			for j, at := range real {
				if at < a.Shots[j].At.Min || at > a.Shots[j].At.Max {
					t.Fatal("no truth", w, i, real)
				}
				if at < w.Open {
					early = append(early, j)
				}
				if at > w.Shut+a.Extra {
					late = append(late, j)
				}
				if o.found && at > w.Shut+o.extra {
					t.Fatal("late though there is enough extra time", w, i, real)
				}
			}
			if !isPart(o.early, early) || !isPart(early, o.canEarly) || !isPart(o.late, late) || !isPart(late, o.canLate) {
				t.Fatal(w, i, real, o)
			}
			if !slices.Contains(o.points, wantedPoints(w, a, real)) {
				t.Fatal(w, i, real, o)
			}
		}
	}
}

// hasNoMore says whether neither the fewest nor the most points of one list are above those of another one.
func hasNoMore(a, b []int) bool {
	return slices.Min(a) <= slices.Min(b) && slices.Max(a) <= slices.Max(b)
}

// P6.10: with more Extra, or a later Shut, no more shots are late, and the points are no fewer, whatever the times are.
func TestMoreTime(t *testing.T) {
	r := rand.New(rand.NewSource(43))
	fewer, more := 0, 0
	for range 1500 {
		w := randomWatch(r, 6, 30, 6)
		i := r.Intn(len(w.Archers))
		longer := copyWatch(w)
		if r.Intn(2) == 0 {
			longer.Shut += r.Intn(10)
		} else {
			longer.Archers[i].Extra += r.Intn(10)
		}
		a, b := watchOf(t, w, i), watchOf(t, longer, i)
		if !isPart(b.late, a.late) || !isPart(b.canLate, a.canLate) || !hasNoMore(a.points, b.points) {
			t.Fatal(w, longer, i, a, b)
		}
		real := randomTimes(r, a.times)
		for j, at := range real {
			w.Archers[i].Shots[j].At, longer.Archers[i].Shots[j].At = span(at, at), span(at, at)
		}
		c, d := watchOf(t, w, i), watchOf(t, longer, i)
		if len(c.points) != 1 || len(d.points) != 1 || !isPart(d.late, c.late) || !hasNoMore(c.points, d.points) {
			t.Fatal(w, longer, i, c, d)
		}
		if len(d.late) < len(c.late) {
			fewer++
		}
		if d.points[0] > c.points[0] {
			more++
		}
	}
	if fewer < 100 || more < 50 {
		t.Error("too few watches differ", fewer, more)
	}
}

// P6.10, P3: a narrower span of a time adds nothing to what can be, and takes back nothing that was certain.
func TestNarrowerSpans(t *testing.T) {
	r := rand.New(rand.NewSource(44))
	narrower := 0
	for range 2000 {
		w := randomWatch(r, 6, 40, 8)
		i := r.Intn(len(w.Archers))
		o := copyWatch(w)
		for j, x := range o.Archers[i].Shots {
			least := x.At.Min + r.Intn(x.At.Max-x.At.Min+1)
			if r.Intn(2) == 0 {
				o.Archers[i].Shots[j].At = span(least, least+r.Intn(x.At.Max-least+1))
			}
		}
		if f := line.CheckWatch(o); f == api.Against {
			continue
		}
		a, b := watchOf(t, w, i), watchOf(t, o, i)
		if !isPart(b.points, a.points) || !isPart(a.early, b.early) || !isPart(b.canEarly, a.canEarly) || !isPart(a.late, b.late) || !isPart(b.canLate, a.canLate) {
			t.Fatal(w, o, i, a, b)
		}
		for j, x := range b.times {
			if x.Min < a.times[j].Min || x.Max > a.times[j].Max {
				t.Fatal(w, o, i, a, b)
			}
		}
		if b.extra > a.extra && a.found {
			t.Fatal(w, o, i, a, b)
		}
		if len(b.points) < len(a.points) {
			narrower++
		}
	}
	if narrower < 100 {
		t.Error("too few spans are narrower", narrower)
	}
}

// P6.4: with the extra time of Extra no shot can be late, and with less one can.
func TestEnoughExtra(t *testing.T) {
	r := rand.New(rand.NewSource(45))
	found, none := 0, 0
	for range 1500 {
		w := randomWatch(r, 6, 1000, 200)
		i := r.Intn(len(w.Archers))
		n, is, f := line.Extra(w, i)
		fair(t, f)
		canBeLate := func(extra int) bool {
			o := copyWatch(w)
			o.Archers[i].Extra = extra
			return len(watchOf(t, o, i).canLate) > 0
		}
		switch {
		case !is:
			none++
			if n != 0 || !canBeLate(api.MaxLineExtra) {
				t.Fatal(w, i, n)
			}
		case n > 0:
			found++
			if canBeLate(n) || !canBeLate(n-1) {
				t.Fatal(w, i, n)
			}
		case canBeLate(0):
			t.Fatal(w, i, n)
		}
	}
	if found < 100 || none < 50 {
		t.Error("too few archers are late", found, none)
	}
}

// P5: the order of archers changes no more than their indexes.
func TestArchersInAnyOrder(t *testing.T) {
	r := rand.New(rand.NewSource(46))
	for range 300 {
		w := randomWatch(r, 6, 50, 10)
		o := copyWatch(w)
		order := r.Perm(len(w.Archers))
		for i, from := range order {
			o.Archers[i] = w.Archers[from]
		}
		for i, from := range order {
			if !watchOf(t, o, i).same(watchOf(t, w, from)) {
				t.Fatal(w, o, i, from)
			}
		}
	}
}
