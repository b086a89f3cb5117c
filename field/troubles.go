package field

import (
	"slices"

	"nock/api"
)

// meet says whether two groups are at one peg in some minute.
func meet(a, b api.FieldVisit) api.Sure {
	always := a.Come.Max < b.Go.Min && b.Come.Max < a.Go.Min
	ever := a.Come.Min < b.Go.Max && b.Come.Min < a.Go.Max
	return sure(always, ever)
}

// trouble returns the trouble of two groups at a peg. It is zero if there is none: no trouble is so, since One is before Two.
func (m minutes) trouble(one, two, peg int) api.FieldTrouble {
	a, b := m[one][peg], m[two][peg]
	is := meet(a, b)
	if is == api.No {
		return api.FieldTrouble{}
	}
	// As soon as each of them can be there both can, since they are free of each other.
	from := max(a.Come.Min, b.Come.Min)
	return api.FieldTrouble{One: one, Two: two, Peg: peg, Meet: is, From: from}
}

// troubleKey is by what troubles are ordered.
func troubleKey(t api.FieldTrouble) []int {
	return []int{t.From, t.One, t.Two, t.Peg}
}

func (c checkedCourse) troubles(m minutes) []api.FieldTrouble {
	var all []api.FieldTrouble
	for two := range c.Groups {
		for one := range two {
			for peg := range c.Pegs {
				if t := m.trouble(one, two, peg); t != (api.FieldTrouble{}) {
					all = append(all, t)
				}
			}
		}
	}
	slices.SortFunc(all, compareBy(troubleKey))
	return all
}

func (c checkedCourse) isSafe(m minutes) bool {
	for group := range c.Groups {
		if c.inTime(group, m[group]) != api.Yes {
			return false
		}
	}
	return len(c.troubles(m)) == 0
}

// leastDelays returns the delays with the least sum with which the course is safe. The least list comes first, so that a later one is better only if its sum is less.
func (c checkedCourse) leastDelays() (best []int, found bool) {
	var m minutes
	least := 0
	delays := make([]int, len(c.Groups))
	var try func(group, sum int)
	try = func(group, sum int) {
		if found && sum >= least {
			return
		}
		if group < len(c.Groups) {
			for delay := range api.MaxFieldDelay + 1 {
				delays[group], m[group] = delay, c.staysOf(group, delay)
				try(group+1, sum+delay)
			}
			return
		}
		if c.isSafe(m) {
			best, least, found = slices.Clone(delays), sum, true
		}
	}
	try(0, 0)
	return best, found
}

// Troubles returns where two groups can be at one peg in some minute.
func Troubles(c api.FieldCourse) ([]api.FieldTrouble, api.Foul) {
	checked, f := look(c)
	if f != api.Fair {
		return nil, f
	}
	return checked.troubles(checked.minutes()), api.Fair
}

// Safe returns whether there are no troubles, and all groups are surely in time.
func Safe(c api.FieldCourse) (bool, api.Foul) {
	checked, f := look(c)
	if f != api.Fair {
		return false, f
	}
	return checked.isSafe(checked.minutes()), api.Fair
}

// Delays returns the delays with the least sum with which the course would be safe, and the least list of several.
func Delays(c api.FieldCourse) (delays []int, found bool, f api.Foul) {
	checked, f := look(c)
	if f != api.Fair {
		return nil, false, f
	}
	delays, found = checked.leastDelays()
	return delays, found, api.Fair
}
