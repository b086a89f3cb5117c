package line_test

import (
	"math"
	"slices"
	"testing"

	"nock/api"
	"nock/line"
)

// checkWatches looks for the foul of each change of the watch of the chapter.
func checkWatches(t *testing.T, want api.Foul, changes ...func(w *api.LineWatch)) {
	t.Helper()
	for i, change := range changes {
		w := withWatch(change)
		if f := line.CheckWatch(w); f != want {
			t.Error(i, f)
		}
	}
}

// P6.4: watches without fouls, up to the limits.
func TestFairWatches(t *testing.T) {
	checkWatches(t, api.Fair,
		func(w *api.LineWatch) {},
		func(w *api.LineWatch) { w.Open, w.Shut = 0, 999 },
		func(w *api.LineWatch) { w.Open, w.Shut = 0, 0 },
		func(w *api.LineWatch) { w.Open, w.Shut = 999, 999 },
		func(w *api.LineWatch) { w.Count = 1 },
		func(w *api.LineWatch) { w.Count = 6 },
		func(w *api.LineWatch) { w.Archers = nil },
		func(w *api.LineWatch) {
			w.Archers = append(w.Archers, api.LineArcher{Name: "dan"}, api.LineArcher{Name: "abcdefghij01"})
		},
		func(w *api.LineWatch) { w.Archers[0].Extra, w.Archers[1].Extra = 300, 0 },
		func(w *api.LineWatch) { w.Archers[1].Shots = nil },
		func(w *api.LineWatch) { w.Archers[1].Shots = make([]api.LineShot, 6) },
		func(w *api.LineWatch) { w.Archers[1].Shots[0] = api.LineShot{At: span(0, 999), Number: 11} },
		func(w *api.LineWatch) { w.Archers[1].Shots[0] = api.LineShot{At: span(999, 999), Number: 0} })
}

// P6.4: each foul of a watch but Against.
func TestWatchFouls(t *testing.T) {
	for _, n := range list(-1, 1000, math.MinInt, math.MaxInt) {
		checkWatches(t, api.OffLimits,
			func(w *api.LineWatch) { w.Open = n },
			func(w *api.LineWatch) { w.Shut = n },
			func(w *api.LineWatch) { w.Archers[1].Shots[0].At.Min = n },
			func(w *api.LineWatch) { w.Archers[1].Shots[0].At.Max = n },
			func(w *api.LineWatch) { w.Archers[1].Shots[0].At = span(n, n) })
	}
	checkWatches(t, api.OutOfOrder,
		func(w *api.LineWatch) { w.Shut = 9 },
		func(w *api.LineWatch) { w.Open, w.Shut = 999, 0 })
	for _, n := range list(0, -1, 7, math.MinInt, math.MaxInt) {
		checkWatches(t, api.OffLimits, func(w *api.LineWatch) { w.Count = n })
	}
	checkWatches(t, api.BadCount,
		func(w *api.LineWatch) { w.Archers = make([]api.LineArcher, 5) },
		func(w *api.LineWatch) { w.Archers = make([]api.LineArcher, 1<<20) },
		func(w *api.LineWatch) { w.Archers[0].Shots = make([]api.LineShot, 7) },
		func(w *api.LineWatch) { w.Archers[0].Shots = make([]api.LineShot, 1<<20) })
	for _, name := range []string{"", "B", "bA", "1", "a-", "ä", "a\x00", "abcdefghij012"} {
		checkWatches(t, api.BadName, func(w *api.LineWatch) { w.Archers[1].Name = name })
	}
	checkWatches(t, api.Twice, func(w *api.LineWatch) { w.Archers[1].Name = "ann" })
	for _, n := range list(-1, 301, math.MinInt, math.MaxInt) {
		checkWatches(t, api.OffLimits, func(w *api.LineWatch) { w.Archers[0].Extra = n })
	}
	for _, n := range list(-1, 12, math.MinInt, math.MaxInt) {
		checkWatches(t, api.OffLimits, func(w *api.LineWatch) { w.Archers[0].Shots[3].Number = n })
	}
	checkWatches(t, api.OffLimits, func(w *api.LineWatch) { w.Archers[0].Shots[0].At = span(6, 5) })
}

// P6.4: an archer without truths.
func TestAgainst(t *testing.T) {
	shots := func(spans ...api.Span) func(w *api.LineWatch) {
		return func(w *api.LineWatch) {
			w.Archers[1].Shots = nil
			for _, x := range spans {
				w.Archers[1].Shots = append(w.Archers[1].Shots, api.LineShot{At: x})
			}
		}
	}
	checkWatches(t, api.Fair,
		shots(span(5, 9), span(5, 5)),
		shots(span(5, 9), span(0, 5)),
		shots(span(5, 9), span(0, 999), span(0, 5)),
		shots(span(5, 9), span(7, 8), span(6, 7), span(0, 7)),
		shots(span(9, 9), span(9, 9), span(9, 9), span(9, 9), span(9, 9), span(9, 9)))
	checkWatches(t, api.Against,
		shots(span(5, 9), span(4, 4)),
		shots(span(5, 9), span(0, 4)),
		shots(span(5, 9), span(0, 999), span(0, 4)),
		shots(span(0, 9), span(7, 8), span(0, 9), span(3, 6)),
		shots(span(5, 9), span(7, 8), span(8, 9), span(0, 7)),
		shots(span(0, 0), span(0, 0), span(0, 0), span(0, 0), span(1, 1), span(0, 0)))
}

// P6.4, R1: of several fouls the first one, and each archer before the next one.
func TestWatchFoulOrder(t *testing.T) {
	bad := api.LineShot{At: span(5, 4), Number: 12}
	w := api.LineWatch{Open: 5, Shut: -1, Archers: make([]api.LineArcher, 5)}
	check := func(want api.Foul) {
		t.Helper()
		if f := line.CheckWatch(w); f != want {
			t.Error(f, want)
		}
		for _, archer := range list(-1, 0, 9) {
			if _, f := line.Points(w, archer); f != want {
				t.Error(f, want)
			}
		}
	}
	check(api.OffLimits)
	w.Shut = 4
	check(api.OutOfOrder)
	w.Shut = 5
	check(api.OffLimits)
	w.Count = 1
	check(api.BadCount)
	w.Archers = []api.LineArcher{{Name: "", Extra: -1}, {Name: ""}}
	check(api.BadName)
	w.Archers[0].Name = "a"
	check(api.OffLimits)
	w.Archers[0] = api.LineArcher{Name: "a", Shots: slices.Repeat([]api.LineShot{bad}, 7)}
	check(api.BadCount)
	w.Archers[0].Shots = []api.LineShot{{At: span(5, 5)}, {At: span(4, 4)}, bad}
	check(api.OffLimits)
	w.Archers[0].Shots = w.Archers[0].Shots[:2]
	check(api.Against)
	w.Archers[0].Shots = nil
	check(api.BadName)
	w.Archers[1] = api.LineArcher{Name: "a", Extra: -1}
	check(api.Twice)
	w.Archers[1].Name = "b"
	check(api.OffLimits)
	w.Archers[1] = api.LineArcher{Name: "b", Extra: 301, Shots: make([]api.LineShot, 7)}
	check(api.OffLimits)
}

// P6.4: an archer that there is not, after the fouls of the watch.
func TestUnknownArcher(t *testing.T) {
	w := exampleWatch()
	for _, archer := range list(-1, 2, 3, math.MinInt, math.MaxInt) {
		if l, f := line.Times(w, archer); len(l) > 0 || f != api.Unknown {
			t.Error(archer, l, f)
		}
		if a, b, f := line.Early(w, archer); len(a)+len(b) > 0 || f != api.Unknown {
			t.Error(archer, a, b, f)
		}
		if a, b, f := line.Late(w, archer); len(a)+len(b) > 0 || f != api.Unknown {
			t.Error(archer, a, b, f)
		}
		if l, f := line.Points(w, archer); len(l) > 0 || f != api.Unknown {
			t.Error(archer, l, f)
		}
		if n, found, f := line.Extra(w, archer); n != 0 || found || f != api.Unknown {
			t.Error(archer, n, found, f)
		}
	}
}
