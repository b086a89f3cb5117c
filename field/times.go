package field

import (
	"iter"
	"slices"
	"sync"

	"nock/api"
)

// stays are the visits of a group, by their pegs.
type stays [api.MaxFieldPegs]api.FieldVisit

// minutes are the visits of all groups, by groups and then by pegs.
type minutes [api.MaxFieldGroups]stays

// visits yields the visits of a group that starts in some minute, in their order.
func (c checkedCourse) visits(group, delay int) iter.Seq[api.FieldVisit] {
	return func(yield func(v api.FieldVisit) bool) {
		start, come := c.Groups[group].Start, api.Span{Min: delay, Max: delay}
		for i := range c.Pegs {
			peg := (start + i) % len(c.Pegs)
			v := api.FieldVisit{Peg: peg, Come: come, Go: plus(come, c.Pegs[peg].Shoot)}
			if !yield(v) {
				return
			}
			come = plus(v.Go, c.Pegs[peg].Walk)
		}
	}
}

func (c checkedCourse) staysOf(group, delay int) stays {
	var all stays
	for v := range c.visits(group, delay) {
		all[v.Peg] = v
	}
	return all
}

// minutes looks at each group on its own.
func (c checkedCourse) minutes() minutes {
	var m minutes
	var lock sync.Mutex
	var groups sync.WaitGroup
	for i, g := range c.Groups {
		groups.Go(func() {
			all := c.staysOf(i, g.Delay)
			lock.Lock()
			defer lock.Unlock()
			m[i] = all
		})
	}
	groups.Wait()
	return m
}

// ends returns when a group ends that has some visits.
func (c checkedCourse) ends(group int, all stays) api.Span {
	last := (c.Groups[group].Start + len(c.Pegs) - 1) % len(c.Pegs)
	return all[last].Go
}

// inTime says whether a group that has some visits ends in the minute Limit or earlier.
func (c checkedCourse) inTime(group int, all stays) api.Sure {
	end := c.ends(group, all)
	return sure(end.Max <= c.Limit, end.Min <= c.Limit)
}

// isThere says whether a group is at the peg of a visit in a minute.
func isThere(v api.FieldVisit, minute int) api.Sure {
	return sure(within(minute, v.Come.Max, v.Go.Min-1), within(minute, v.Come.Min, v.Go.Max-1))
}

// shot says of each peg whether a group is there in a minute. Since groups are free of each other, one is surely there only if it is the same one in every truth.
func (c checkedCourse) shot(minute int) []api.Sure {
	m := c.minutes()
	var all []api.Sure
	for peg := range c.Pegs {
		always, ever := false, false
		for group := range c.Groups {
			is := isThere(m[group][peg], minute)
			always, ever = always || is == api.Yes, ever || is != api.No
		}
		all = append(all, sure(always, ever))
	}
	return all
}

// Visits returns when a group comes to each peg, and goes, in the order in which it visits them.
func Visits(c api.FieldCourse, group int) ([]api.FieldVisit, api.Foul) {
	checked, f := lookAtGroup(c, group)
	if f != api.Fair {
		return nil, f
	}
	return slices.Collect(checked.visits(group, checked.Groups[group].Delay)), api.Fair
}

// Ends returns when a group ends.
func Ends(c api.FieldCourse, group int) (api.Span, api.Foul) {
	checked, f := lookAtGroup(c, group)
	if f != api.Fair {
		return api.Span{}, f
	}
	return checked.ends(group, checked.staysOf(group, checked.Groups[group].Delay)), api.Fair
}

// InTime returns whether a group ends in the minute Limit or earlier.
func InTime(c api.FieldCourse, group int) (api.Sure, api.Foul) {
	checked, f := lookAtGroup(c, group)
	if f != api.Fair {
		return api.Maybe, f
	}
	return checked.inTime(group, checked.staysOf(group, checked.Groups[group].Delay)), api.Fair
}

// Shot returns for each peg whether a group is there in a minute.
func Shot(c api.FieldCourse, minute int) ([]api.Sure, api.Foul) {
	checked, f := look(c)
	if f != api.Fair {
		return nil, f
	}
	if f := checkMinute(minute); f != api.Fair {
		return nil, f
	}
	return checked.shot(minute), api.Fair
}
