package line

import (
	"slices"

	"nock/api"
)

// spans returns what is known of the time of each shot on its own.
func (a archer) spans() []api.Span {
	var spans []api.Span
	for _, x := range a.Shots {
		spans = append(spans, x.At)
	}
	return spans
}

// narrowed returns the spans of times none of which is before the one before it; it says whether there are such times.
func narrowed(spans []api.Span) (narrow []api.Span, found bool) {
	narrow = slices.Clone(spans)
	for i := 1; i < len(narrow); i++ {
		narrow[i].Min = max(narrow[i].Min, narrow[i-1].Min)
	}
	for i := len(narrow) - 2; i >= 0; i-- {
		narrow[i].Max = min(narrow[i].Max, narrow[i+1].Max)
	}
	isEmpty := func(x api.Span) bool { return x.Min > x.Max }
	return narrow, !slices.ContainsFunc(narrow, isEmpty)
}

// times returns the span of the times that truths give each shot.
func (a archer) times() []api.Span {
	times, _ := narrowed(a.spans())
	return times
}

// last returns the last time at which the archer may loose an arrow.
func (a archer) last() int {
	return a.Shut + a.Extra
}

func (a archer) isEarly(at int) bool {
	return at < a.Open
}

func (a archer) isLate(at int) bool {
	return at > a.last()
}

// outOfTime returns the shots that are out of time in all truths, and in some. It is said of a time whether it is out; if it is so of both ends of a span, it is so of all between.
func (a archer) outOfTime(isOut func(at int) bool) (sure, can []int) {
	for i, x := range a.times() {
		first, last := isOut(x.Min), isOut(x.Max)
		if first && last {
			sure = append(sure, i)
		}
		if first || last {
			can = append(can, i)
		}
	}
	return sure, can
}

// canMiss says whether there is a truth in which just so many of the first shots are early, and so many of the last ones late.
func (a archer) canMiss(early, late int) bool {
	spans := a.spans()
	for i, x := range spans {
		switch {
		case i < early:
			x.Max = min(x.Max, a.Open-1)
		case i >= len(spans)-late:
			x.Min = max(x.Min, a.last()+1)
		default:
			x = api.Span{Min: max(x.Min, a.Open), Max: min(x.Max, a.last())}
		}
		spans[i] = x
	}
	_, found := narrowed(spans)
	return found
}

// pointsWithout returns the points if so many of the highest numbers are lost.
func (a archer) pointsWithout(lost int) int {
	var numbers []int
	for _, x := range a.Shots {
		numbers = append(numbers, x.Number)
	}
	slices.Sort(numbers)
	sum := 0
	for _, n := range numbers[:min(a.Count, len(numbers)-lost)] {
		sum += min(n, ten)
	}
	return sum
}

// points returns the points that truths give, ascending. As no time is before the one before it, early shots are the first ones, and late ones the last.
func (a archer) points() []int {
	var points []int
	for early := range len(a.Shots) + 1 {
		for late := range len(a.Shots) - early + 1 {
			if a.canMiss(early, late) {
				points = append(points, a.pointsWithout(early+late))
			}
		}
	}
	slices.Sort(points)
	return slices.Compact(points)
}

// extra returns the least extra time with which no shot can be late.
func (a archer) extra() int {
	least := 0
	for _, x := range a.times() {
		least = max(least, x.Max-a.Shut)
	}
	return least
}

// Times returns the span of the times that truths give each shot.
func Times(w api.LineWatch, archer int) ([]api.Span, api.Foul) {
	a, f := lookAtArcher(w, archer)
	if f != api.Fair {
		return nil, f
	}
	return a.times(), api.Fair
}

// Early returns the shots that are early in all truths, and in some.
func Early(w api.LineWatch, archer int) (sure, can []int, f api.Foul) {
	a, f := lookAtArcher(w, archer)
	if f != api.Fair {
		return nil, nil, f
	}
	sure, can = a.outOfTime(a.isEarly)
	return sure, can, api.Fair
}

// Late returns the shots that are late in all truths, and in some.
func Late(w api.LineWatch, archer int) (sure, can []int, f api.Foul) {
	a, f := lookAtArcher(w, archer)
	if f != api.Fair {
		return nil, nil, f
	}
	sure, can = a.outOfTime(a.isLate)
	return sure, can, api.Fair
}

// Points returns the points that truths give an archer.
func Points(w api.LineWatch, archer int) ([]int, api.Foul) {
	a, f := lookAtArcher(w, archer)
	if f != api.Fair {
		return nil, f
	}
	return a.points(), api.Fair
}

// Extra returns the least extra time with which no shot of an archer is late in any truth.
func Extra(w api.LineWatch, archer int) (n int, found bool, f api.Foul) {
	a, f := lookAtArcher(w, archer)
	if f != api.Fair {
		return 0, false, f
	}
	if n = a.extra(); n > api.MaxLineExtra {
		return 0, false, api.Fair
	}
	return n, true, api.Fair
}
