package arrow

import (
	"sync"

	"nock/api"
)

// unbounded is far above every mark that a shot leaves possible.
const unbounded = 1 << 30

// markBounds is a span of marks for each distance.
type markBounds [api.MaxSightFar + 1]api.Span

// bound returns the marks that truths give a distance, of a card whose shots fit: those that each shot alone leaves possible. All marks, if there is no shot.
func (c card) bound(at int) api.Span {
	x := api.Span{Min: -unbounded, Max: unbounded}
	for shot := range c.Shots {
		x, _ = common(x, c.reach(shot, at))
	}
	return x
}

// bounds returns the marks that truths give each distance.
func (c card) bounds() markBounds {
	var bounds markBounds
	var wait sync.WaitGroup
	for at := range bounds {
		wait.Go(func() { bounds[at] = c.bound(at) })
	}
	wait.Wait()
	return bounds
}

// differ says whether bounds are different at some distance.
func differ(a, b markBounds) bool {
	for at := range a {
		if a[at] != b[at] {
			return true
		}
	}
	return false
}

// MarkAt returns the marks that truths give a distance.
func MarkAt(c api.SightCard, at int) (api.Span, api.Foul) {
	given := card{c}
	if f := firstFoul(given.check, distance(at), given.checkSome, given.checkFit); f != api.Fair {
		return api.Span{}, f
	}
	return given.bound(at), api.Fair
}

// Hits returns whether the mark at a distance differs from mark by within at most.
func Hits(c api.SightCard, at, mark, within int) (api.Sure, api.Foul) {
	given := card{c}
	f := firstFoul(
		given.check,
		distance(at),
		limits(mark, -api.MaxSightMark, api.MaxSightMark),
		limits(within, 0, api.MaxSightMark),
		given.checkSome,
		given.checkFit,
	)
	if f != api.Fair {
		return api.Maybe, f
	}
	x := given.bound(at)
	switch {
	case max(x.Max-mark, mark-x.Min) <= within:
		return api.Yes, api.Fair
	case max(x.Min-mark, mark-x.Max) > within:
		return api.No, api.Fair
	}
	return api.Maybe, api.Fair
}

// Best returns the mark that is off by least in the worst case, and by how much.
func Best(c api.SightCard, at int) (mark, off int, f api.Foul) {
	x, f := MarkAt(c, at)
	if f != api.Fair {
		return 0, 0, f
	}
	mark = x.Min + (x.Max-x.Min)/2
	return mark, x.Max - mark, api.Fair
}

// Widest returns the first distance at which most marks are possible, and the span of them.
func Widest(c api.SightCard, from, to int) (at int, x api.Span, f api.Foul) {
	given := card{c}
	inOrder := func() api.Foul {
		if from > to {
			return api.OutOfOrder
		}
		return api.Fair
	}
	f = firstFoul(given.check, distance(from), distance(to), inOrder, given.checkSome, given.checkFit)
	if f != api.Fair {
		return 0, api.Span{}, f
	}
	bounds := given.bounds()
	at = from
	for next := from + 1; next <= to; next++ {
		if bounds[next].Max-bounds[next].Min > bounds[at].Max-bounds[at].Min {
			at = next
		}
	}
	return at, bounds[at], api.Fair
}

// Matter returns the shots without which more marks would be possible at some distance.
func Matter(c api.SightCard) ([]int, api.Foul) {
	given := card{c}
	if f := firstFoul(given.check, given.checkFit); f != api.Fair {
		return nil, f
	}
	var list []int
	bounds := given.bounds()
	for shot := range c.Shots {
		if differ(given.without(shot).bounds(), bounds) {
			list = append(list, shot)
		}
	}
	return list, api.Fair
}
