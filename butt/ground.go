package butt

import (
	"slices"

	"nock/api"
)

// ground is a ground as it was given: it may have fouls.
type ground struct{ api.ButtGround }

// groundChecks returns what is checked of a ground, in this order.
func groundChecks() []check[ground] {
	return []check[ground]{
		{number: ground.countStands, least: 0, most: api.MaxButtStands, outside: api.BadCount, element: ground.checkStand},
		{number: ground.countArchers, least: 0, most: api.MaxButtArchers, outside: api.BadCount, element: ground.checkArcher},
	}
}

func (g ground) countStands() int {
	return len(g.Stands)
}

func (g ground) countArchers() int {
	return len(g.Archers)
}

func (g ground) checkStand(i int) api.Foul {
	s := g.Stands[i]
	isSame := func(earlier api.ButtStand) bool { return earlier.Name == s.Name }
	switch {
	case !isName(s.Name):
		return api.BadName
	case slices.ContainsFunc(g.Stands[:i], isSame):
		return api.Twice
	case !within(s.Far, 1, api.MaxButtFar) || !within(s.Size, 1, api.MaxButtSize) || !within(s.Seats, 0, api.MaxButtSeats):
		return api.OffLimits
	}
	return api.Fair
}

func (g ground) checkArcher(i int) api.Foul {
	a := g.Archers[i]
	isSame := func(earlier api.ButtArcher) bool { return earlier.Name == a.Name }
	switch {
	case !isName(a.Name):
		return api.BadName
	case slices.ContainsFunc(g.Archers[:i], isSame):
		return api.Twice
	case !within(a.Size, 1, api.MaxButtSize) || !within(a.Near, 1, api.MaxButtFar) || !within(a.Far, 1, api.MaxButtFar):
		return api.OffLimits
	case a.Near > a.Far:
		return api.OutOfOrder
	}
	return api.Fair
}

// checkList looks at a list of archers.
func (g ground) checkList(archers []int) api.Foul {
	for i, archer := range archers {
		if !within(archer, 0, len(g.Archers)-1) {
			return api.Unknown
		}
		if i > 0 && archer <= archers[i-1] {
			return api.OutOfOrder
		}
	}
	return api.Fair
}

// checkedGround is a ground without fouls.
type checkedGround struct{ ground }

// lookAtGround checks a ground.
func lookAtGround(given api.ButtGround) (checkedGround, api.Foul) {
	g := ground{given}
	if f := checkAll(g, groundChecks()); f != api.Fair {
		return checkedGround{}, f
	}
	return checkedGround{g}, api.Fair
}

// canUse says whether an archer can use a stand.
func (g checkedGround) canUse(archer, stand int) bool {
	a, s := g.Archers[archer], g.Stands[stand]
	return within(s.Far, a.Near, a.Far) && s.Size >= a.Size
}

// CheckGround returns the foul of a ground.
func CheckGround(g api.ButtGround) api.Foul {
	return checkAll(ground{g}, groundChecks())
}

// Can returns the stands that an archer can use.
func Can(g api.ButtGround, archer int) ([]int, api.Foul) {
	c, f := lookAtGround(g)
	if f != api.Fair {
		return nil, f
	}
	if !within(archer, 0, len(c.Archers)-1) {
		return nil, api.Unknown
	}
	var stands []int
	for stand := range c.Stands {
		if c.canUse(archer, stand) {
			stands = append(stands, stand)
		}
	}
	return stands, api.Fair
}
