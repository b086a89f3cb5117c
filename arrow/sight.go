package arrow

import (
	"cmp"
	"slices"

	"nock/api"
)

// card is a sight card as it was given: it may have fouls.
type card struct{ api.SightCard }

func (c card) check() api.Foul {
	return firstFoul(c.checkRule, c.checkCount, c.checkShots)
}

func (c card) checkRule() api.Foul {
	return firstFoul(
		limits(c.Rule.Most, 0, api.MaxSightSlope),
		limits(c.Rule.Least, 0, c.Rule.Most),
		limits(c.Rule.Wind, 0, api.MaxSightSlope),
		limits(c.Rule.Light, 0, api.MaxSightSlope),
	)
}

func (c card) checkCount() api.Foul {
	if len(c.Shots) > api.MaxSightShots {
		return api.BadCount
	}
	return api.Fair
}

func (c card) checkShots() api.Foul {
	for _, shot := range c.Shots {
		f := firstFoul(
			distance(shot.At),
			spanLimits(shot.Mark, 0, api.MaxSightMark),
			limits(shot.Wind, 0, api.MaxSightLevel),
			limits(shot.Light, 0, api.MaxSightLevel),
		)
		if f != api.Fair {
			return f
		}
	}
	return api.Fair
}

// distance returns a check that a distance is one that a sight card knows of.
func distance(at int) func() api.Foul {
	return limits(at, 0, api.MaxSightFar)
}

// hasShot returns a check that there is such a shot.
func (c card) hasShot(shot int) func() api.Foul {
	return func() api.Foul {
		if shot < 0 || shot >= len(c.Shots) {
			return api.Unknown
		}
		return api.Fair
	}
}

// checkSome finds a foul if there is no shot, from which nothing can be told.
func (c card) checkSome() api.Foul {
	if len(c.Shots) == 0 {
		return api.NotEnough
	}
	return api.Fair
}

// checkFit finds a foul if the shots do not fit, so that there is no truth.
func (c card) checkFit() api.Foul {
	if len(c.clash()) > 0 {
		return api.Against
	}
	return api.Fair
}

// wide returns the wide span of a shot.
func (c card) wide(shot int) api.Span {
	x := c.Shots[shot]
	more := x.Wind*c.Rule.Wind + x.Light*c.Rule.Light
	return api.Span{Min: x.Mark.Min - more, Max: x.Mark.Max + more}
}

// reach returns the marks that one shot alone leaves possible at a distance.
func (c card) reach(shot, at int) api.Span {
	x := c.wide(shot)
	far := at - c.Shots[shot].At
	if far < 0 {
		return api.Span{Min: x.Min + far*c.Rule.Most, Max: x.Max + far*c.Rule.Least}
	}
	return api.Span{Min: x.Min + far*c.Rule.Least, Max: x.Max + far*c.Rule.Most}
}

// agree says whether two shots fit.
func (c card) agree(one, two int) bool {
	_, found := common(c.reach(one, c.Shots[two].At), c.wide(two))
	return found
}

// clash returns the first two shots that do not fit. They are the fewest: one shot always fits, and shots fit if each two of them do, since a mark between two distances can grow as slowly, or as fast, as the whole way allows.
func (c card) clash() []int {
	for one := range c.Shots {
		for two := one + 1; two < len(c.Shots); two++ {
			if !c.agree(one, two) {
				return []int{one, two}
			}
		}
	}
	return nil
}

// trust returns the most shots that fit, of several such lists the least one.
func (c card) trust() []int {
	var best []int
lists:
	for bits := range 1 << len(c.Shots) {
		list := members(bits)
		for i, two := range list {
			for _, one := range list[:i] {
				if !c.agree(one, two) {
					continue lists
				}
			}
		}
		if better(list, best, cmp.Compare[int]) {
			best = list
		}
	}
	return best
}

// members returns the numbers of the bits that are set, ascending.
func members(bits int) []int {
	var list []int
	for i := range api.MaxSightShots {
		if bits&(1<<i) != 0 {
			list = append(list, i)
		}
	}
	return list
}

// without returns the card that lacks a shot.
func (c card) without(shot int) card {
	c.Shots = slices.Delete(slices.Clone(c.Shots), shot, shot+1)
	return c
}

// CheckCard returns the foul of a sight card.
func CheckCard(c api.SightCard) api.Foul {
	return card{c}.check()
}

// Wide returns the wide span of a shot.
func Wide(c api.SightCard, shot int) (api.Span, api.Foul) {
	given := card{c}
	if f := firstFoul(given.check, given.hasShot(shot)); f != api.Fair {
		return api.Span{}, f
	}
	return given.wide(shot), api.Fair
}

// Fits returns whether all shots fit.
func Fits(c api.SightCard) (bool, api.Foul) {
	given := card{c}
	if f := given.check(); f != api.Fair {
		return false, f
	}
	return len(given.clash()) == 0, api.Fair
}

// Clash returns the fewest shots that do not fit.
func Clash(c api.SightCard) ([]int, api.Foul) {
	given := card{c}
	if f := given.check(); f != api.Fair {
		return nil, f
	}
	return given.clash(), api.Fair
}

// Trust returns the most shots that fit.
func Trust(c api.SightCard) ([]int, api.Foul) {
	given := card{c}
	if f := given.check(); f != api.Fair {
		return nil, f
	}
	return given.trust(), api.Fair
}
