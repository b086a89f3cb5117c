package butt

import "nock/api"

// boss is a boss as it was given: it may have fouls.
type boss struct{ api.ButtBoss }

// bossChecks returns what is checked of a boss, in this order.
func bossChecks() []check[boss] {
	return []check[boss]{
		{number: boss.countLayers, least: 1, most: api.MaxButtLayers, outside: api.BadCount, element: boss.checkLayer},
		{number: boss.countSessions, least: 0, most: api.MaxButtSessions, outside: api.BadCount, element: boss.checkSession},
		{number: boss.limit, least: 0, most: api.MaxButtLimit, outside: api.OffLimits},
		{number: boss.allowedSwaps, least: 0, most: api.MaxButtSessions, outside: api.OffLimits},
	}
}

func (b boss) countLayers() int {
	return len(b.Layers)
}

func (b boss) countSessions() int {
	return len(b.Sessions)
}

func (b boss) limit() int {
	return b.Limit
}

func (b boss) allowedSwaps() int {
	return b.Swaps
}

func (b boss) checkLayer(i int) api.Foul {
	isWear := func(n int) bool { return within(n, 0, api.MaxButtWear) }
	return checkQuarters(b.Layers[i].Wear, isWear)
}

func (b boss) checkSession(i int) api.Foul {
	isLoad := func(x api.Span) bool { return isSpan(x, 0, api.MaxButtWear) }
	return checkQuarters(b.Sessions[i].Load, isLoad)
}

// checkQuarters looks at what a list says of each quarter, or of each position.
func checkQuarters[T any](list []T, isRight func(x T) bool) api.Foul {
	if len(list) != allQuarters {
		return api.BadCount
	}
	for _, x := range list {
		if !isRight(x) {
			return api.OffLimits
		}
	}
	return api.Fair
}

// checkedBoss is a boss without fouls.
type checkedBoss struct{ boss }

// look checks a boss.
func look(given api.ButtBoss) (checkedBoss, api.Foul) {
	b := boss{given}
	if f := checkAll(b, bossChecks()); f != api.Fair {
		return checkedBoss{}, f
	}
	return checkedBoss{b}, api.Fair
}

// plan is a plan of a boss as it was given: it may have fouls.
type plan struct {
	checkedBoss
	turns []api.ButtTurn
}

func (p plan) countTurns() int {
	return len(p.turns)
}

func (p plan) checkTurn(i int) api.Foul {
	if !within(p.turns[i].Layer, 0, p.countLayers()-1) {
		return api.Unknown
	}
	if !within(p.turns[i].Turn, 0, allQuarters-1) {
		return api.OffLimits
	}
	return api.Fair
}

func (p plan) countSwaps() int {
	return countSwaps(p.turns)
}

// countSwaps returns how many sessions with some turns are swaps.
func countSwaps(turns []api.ButtTurn) int {
	swaps, front := 0, firstLayer
	for _, t := range turns {
		if t.Layer != front {
			swaps++
		}
		front = t.Layer
	}
	return swaps
}

func (p plan) check() api.Foul {
	return checkAll(p, []check[plan]{
		{number: plan.countTurns, least: p.countSessions(), most: p.countSessions(), outside: api.BadCount, element: plan.checkTurn},
		{number: plan.countSwaps, least: 0, most: p.Swaps, outside: api.Against},
	})
}

// lookAtPlan checks a boss, and a plan of it.
func lookAtPlan(given api.ButtBoss, turns []api.ButtTurn) (checkedBoss, api.Foul) {
	c, f := look(given)
	if f != api.Fair {
		return checkedBoss{}, f
	}
	if f := (plan{c, turns}).check(); f != api.Fair {
		return checkedBoss{}, f
	}
	return c, api.Fair
}

// CheckBoss returns the foul of a boss.
func CheckBoss(b api.ButtBoss) api.Foul {
	return checkAll(boss{b}, bossChecks())
}

// CheckPlan returns the foul of a plan, after that of its boss.
func CheckPlan(b api.ButtBoss, p []api.ButtTurn) api.Foul {
	_, f := lookAtPlan(b, p)
	return f
}
