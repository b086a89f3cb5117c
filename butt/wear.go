package butt

import (
	"cmp"
	"slices"

	"nock/api"
)

const (
	allQuarters = 4 // how many quarters a layer has, and how many positions they can be at
	firstLayer  = 0 // the layer that is in front before the first session
)

// quarters are spans of the quarters of a layer, or of the positions at which these can be, listed round the middle.
type quarters [allQuarters]api.Span

// turned returns what is at the position of each quarter of a layer that is turned.
func (x quarters) turned(turn int) quarters {
	var o quarters
	for q := range o {
		o[q] = x[(q+turn)%allQuarters]
	}
	return o
}

func byMin(a, b api.Span) int {
	return cmp.Compare(a.Min, b.Min)
}

func byMax(a, b api.Span) int {
	return cmp.Compare(a.Max, b.Max)
}

// worst returns the span of the greatest of the quarters. Its ends are those of the truths in which each of them is least, or greatest.
func (x quarters) worst() api.Span {
	all := slices.Values(x[:])
	return api.Span{Min: greatest(all, byMin).Min, Max: greatest(all, byMax).Max}
}

// spread returns the span of the differences between the greatest and the least of the quarters.
func (x quarters) spread() api.Span {
	all := slices.Values(x[:])
	spread := api.Span{Min: max(0, greatest(all, byMin).Min-least(all, byMax).Max)}
	for i, one := range x {
		for k, other := range x {
			// A quarter has one wear only: its own ends are no difference.
			if i != k {
				spread.Max = max(spread.Max, one.Max-other.Min)
			}
		}
	}
	return spread
}

// greater returns the span of the greater one of two numbers.
func greater(a, b api.Span) api.Span {
	return api.Span{Min: max(a.Min, b.Min), Max: max(a.Max, b.Max)}
}

// wornLayer is a layer of a boss after some sessions: its wear, and whether it is in front.
type wornLayer struct {
	wear  quarters
	front bool
}

// draft is a plan as far as it goes, the layers after it, and their greatest wear.
type draft struct {
	turns  []api.ButtTurn
	layers []wornLayer
	worst  api.Span
}

// begin returns the draft before the first session.
func (c checkedBoss) begin() draft {
	var d draft
	for i, given := range c.Layers {
		l := wornLayer{front: i == firstLayer}
		for q, n := range given.Wear {
			l.wear[q] = api.Span{Min: n, Max: n}
		}
		d.layers = append(d.layers, l)
		d.worst = greater(d.worst, l.wear.worst())
	}
	return d
}

// wearing returns what adds the load of a session to the wear of a layer that is turned.
func (c checkedBoss) wearing(session int) func(wear quarters, turn int) quarters {
	load := quarters(c.Sessions[session].Load)
	return func(wear quarters, turn int) quarters {
		for q, x := range load.turned(turn) {
			wear[q].Min += x.Min
			wear[q].Max += x.Max
		}
		return wear
	}
}

// then returns a draft that goes on by one more turn.
func (c checkedBoss) then(d draft, t api.ButtTurn) draft {
	add := c.wearing(len(d.turns))
	next := draft{turns: append(slices.Clone(d.turns), t), layers: slices.Clone(d.layers)}
	for i := range next.layers {
		next.layers[i].front = i == t.Layer
	}
	l := &next.layers[t.Layer]
	l.wear = add(l.wear, t.Turn)
	// Only this layer has changed, and wear never becomes less.
	next.worst = greater(d.worst, l.wear.worst())
	return next
}

// after returns the draft of some turns.
func (c checkedBoss) after(turns []api.ButtTurn) draft {
	d := c.begin()
	for _, t := range turns {
		d = c.then(d, t)
	}
	return d
}

// After returns for each layer the spans of the wear of its quarters after the first n sessions.
func After(b api.ButtBoss, p []api.ButtTurn, n int) ([][]api.Span, api.Foul) {
	c, f := lookAtPlan(b, p)
	if f != api.Fair {
		return nil, f
	}
	if !within(n, 0, len(p)) {
		return nil, api.OffLimits
	}
	var all [][]api.Span
	for _, l := range c.after(p[:n]).layers {
		all = append(all, slices.Clone(l.wear[:]))
	}
	return all, api.Fair
}

// Worst returns the span of the greatest wear of all quarters after all sessions.
func Worst(b api.ButtBoss, p []api.ButtTurn) (api.Span, api.Foul) {
	c, f := lookAtPlan(b, p)
	if f != api.Fair {
		return api.Span{}, f
	}
	return c.after(p).worst, api.Fair
}

// Holds returns whether no wear is above the limit after all sessions.
func Holds(b api.ButtBoss, p []api.ButtTurn) (api.Sure, api.Foul) {
	c, f := lookAtPlan(b, p)
	if f != api.Fair {
		return api.Maybe, f
	}
	x := c.after(p).worst
	return sure(x.Max <= c.Limit, x.Min <= c.Limit), api.Fair
}

// Spread returns the span of the difference between the greatest and the least wear of a layer after all sessions.
func Spread(b api.ButtBoss, p []api.ButtTurn, layer int) (api.Span, api.Foul) {
	c, f := lookAtPlan(b, p)
	if f != api.Fair {
		return api.Span{}, f
	}
	if !within(layer, 0, len(c.Layers)-1) {
		return api.Span{}, api.Unknown
	}
	return c.after(p).layers[layer].wear.spread(), api.Fair
}

// Replace returns after how many sessions a wear can be above the limit for the first time, and the first layer that has one.
func Replace(b api.ButtBoss, p []api.ButtTurn) (n, layer int, found bool, f api.Foul) {
	c, f := lookAtPlan(b, p)
	if f != api.Fair {
		return 0, 0, false, f
	}
	canBreak := func(l wornLayer) bool { return l.wear.worst().Max > c.Limit }
	for sessions := range len(p) + 1 {
		if i := slices.IndexFunc(c.after(p[:sessions]).layers, canBreak); i >= 0 {
			return sessions, i, true, api.Fair
		}
	}
	return 0, 0, false, api.Fair
}
