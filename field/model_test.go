package field_test

import (
	"cmp"
	"slices"

	"nock/api"
)

// This file finds what must be returned in another way: by going through all numbers that truths can give.

// wantedLevel returns the greatest number whose square is small enough.
func wantedLevel(slant, rise int) int {
	best := 0
	for n := range 200 {
		if n*n <= slant*slant-rise*rise {
			best = n
		}
	}
	return best
}

// wantedLevels returns the level distances of all truths.
func wantedLevels(p api.FieldPeg) []int {
	var all []int
	for slant := range 91 {
		for rise := -90; rise <= 90; rise++ {
			if isIn(slant, p.Slant) && isIn(rise, p.Rise) {
				all = append(all, wantedLevel(slant, rise))
			}
		}
	}
	return all
}

// sureOf says in how many of some truths something is so.
func sureOf[T any](truths []T, is func(x T) bool) api.Sure {
	many := 0
	for _, x := range truths {
		if is(x) {
			many++
		}
	}
	switch many {
	case len(truths):
		return yes
	case 0:
		return no
	}
	return maybe
}

// spanOf returns the span of the numbers of some truths.
func spanOf[T any](truths []T, number func(x T) int) api.Span {
	x := only(number(truths[0]))
	for _, one := range truths {
		x = span(min(x.Min, number(one)), max(x.Max, number(one)))
	}
	return x
}

// stay is when a group really comes and goes.
type stay struct{ come, leave int }

func (s stay) comes() int { return s.come }

func (s stay) leaves() int { return s.leave }

func (s stay) has(minute int) bool { return s.come <= minute && minute < s.leave }

// order returns the pegs in the order in which a group visits them.
func order(c api.FieldCourse, group int) []int {
	var pegs []int
	peg := c.Groups[group].Start
	for range c.Pegs {
		pegs = append(pegs, peg)
		peg++
		if peg == len(c.Pegs) {
			peg = 0
		}
	}
	return pegs
}

// wantedStays returns, for each peg, all stays of a group there in all truths. When it comes next depends on when it went, and on nothing before that.
func wantedStays(c api.FieldCourse, group int) map[int][]stay {
	all := make(map[int][]stay)
	comes := map[int]bool{c.Groups[group].Delay: true}
	for _, peg := range order(c, group) {
		stays, next := make(map[stay]bool), make(map[int]bool)
		p := c.Pegs[peg]
		for come := range comes {
			for shoot := p.Shoot.Min; shoot <= p.Shoot.Max; shoot++ {
				stays[stay{come, come + shoot}] = true
				for walk := p.Walk.Min; walk <= p.Walk.Max; walk++ {
					next[come+shoot+walk] = true
				}
			}
		}
		for s := range stays {
			all[peg] = append(all[peg], s)
		}
		comes = next
	}
	return all
}

func wantedVisits(c api.FieldCourse, group int) []api.FieldVisit {
	var all []api.FieldVisit
	stays := wantedStays(c, group)
	for _, peg := range order(c, group) {
		all = append(all, api.FieldVisit{Peg: peg, Come: spanOf(stays[peg], stay.comes), Go: spanOf(stays[peg], stay.leaves)})
	}
	return all
}

// wantedLast returns the stays of a group at the last of its pegs.
func wantedLast(c api.FieldCourse, group int) []stay {
	pegs := order(c, group)
	return wantedStays(c, group)[pegs[len(pegs)-1]]
}

func wantedEnds(c api.FieldCourse, group int) api.Span {
	return spanOf(wantedLast(c, group), stay.leaves)
}

func wantedInTime(c api.FieldCourse, group int) api.Sure {
	return sureOf(wantedLast(c, group), func(s stay) bool { return s.leave <= c.Limit })
}

// allStays returns the stays of all groups.
func allStays(c api.FieldCourse) []map[int][]stay {
	var all []map[int][]stay
	for group := range c.Groups {
		all = append(all, wantedStays(c, group))
	}
	return all
}

// wantedShot goes, for each peg, through all truths of all groups that differ in who is there.
func wantedShot(c api.FieldCourse, all []map[int][]stay, minute int) []api.Sure {
	var shot []api.Sure
	for peg := range c.Pegs {
		// The truths of the groups so far: whether one is there.
		truths := []bool{false}
		for _, stays := range all {
			var more []bool
			for _, s := range stays[peg] {
				for _, is := range truths {
					if next := is || s.has(minute); !slices.Contains(more, next) {
						more = append(more, next)
					}
				}
			}
			truths = more
		}
		shot = append(shot, sureOf(truths, func(is bool) bool { return is }))
	}
	return shot
}

// firstBoth returns the first minute of both of two stays.
func firstBoth(a, b stay) (minute int, found bool) {
	for minute := a.come; minute < a.leave; minute++ {
		if b.has(minute) {
			return minute, true
		}
	}
	return 0, false
}

// wantedTrouble goes through all truths of two groups at a peg.
func wantedTrouble(ones, twos []stay) (meet api.Sure, from int) {
	var truths []bool
	from = -1
	for _, a := range ones {
		for _, b := range twos {
			minute, is := firstBoth(a, b)
			truths = append(truths, is)
			if is && (from < 0 || minute < from) {
				from = minute
			}
		}
	}
	return sureOf(truths, func(is bool) bool { return is }), from
}

func compareTroubles(a, b api.FieldTrouble) int {
	return cmp.Or(cmp.Compare(a.From, b.From), cmp.Compare(a.One, b.One), cmp.Compare(a.Two, b.Two), cmp.Compare(a.Peg, b.Peg))
}

func wantedTroubles(c api.FieldCourse) []api.FieldTrouble {
	var all []api.FieldTrouble
	stays := allStays(c)
	for one := range c.Groups {
		for two := one + 1; two < len(c.Groups); two++ {
			for peg := range c.Pegs {
				if meet, from := wantedTrouble(stays[one][peg], stays[two][peg]); meet != no {
					all = append(all, api.FieldTrouble{One: one, Two: two, Peg: peg, Meet: meet, From: from})
				}
			}
		}
	}
	slices.SortFunc(all, compareTroubles)
	return all
}

func wantedSafe(c api.FieldCourse) bool {
	for group := range c.Groups {
		if wantedInTime(c, group) != yes {
			return false
		}
	}
	return len(wantedTroubles(c)) == 0
}

// delayLists returns all lists of delays, those with the least sum first, and of several the least one.
func delayLists(groups int) [][]int {
	all := [][]int{nil}
	for range groups {
		var longer [][]int
		for _, l := range all {
			for delay := range 13 {
				longer = append(longer, append(slices.Clone(l), delay))
			}
		}
		all = longer
	}
	slices.SortFunc(all, func(a, b []int) int { return cmp.Or(cmp.Compare(sum(a), sum(b)), slices.Compare(a, b)) })
	return all
}

func sum(l []int) int {
	all := 0
	for _, n := range l {
		all += n
	}
	return all
}

// isOpen says whether no lane crosses a path of a peg where a group can be.
func isOpen(c api.FieldCourse, shot []api.Sure, path int) bool {
	for peg, is := range shot {
		if is != no && slices.Contains(c.Pegs[peg].Lane, path) {
			return false
		}
	}
	return true
}

// allWays returns all ways from a point to the point 0 on which no point is twice.
func allWays(c api.FieldCourse, shot []api.Sure, point int) []rescued {
	var all []rescued
	var goOn func(points []int, long int)
	goOn = func(points []int, long int) {
		at := points[len(points)-1]
		if at == 0 {
			all = append(all, rescued{slices.Clone(points), long, true})
			return
		}
		for i, p := range c.Paths {
			for _, ends := range [][2]int{{p.One, p.Two}, {p.Two, p.One}} {
				if ends[0] == at && !slices.Contains(points, ends[1]) && isOpen(c, shot, i) {
					goOn(append(slices.Clone(points), ends[1]), long+p.Long)
				}
			}
		}
	}
	goOn(list(point), 0)
	return all
}

func compareWays(a, b rescued) int {
	return cmp.Or(cmp.Compare(a.long, b.long), slices.Compare(a.points, b.points))
}

func wantedRescue(c api.FieldCourse, shot []api.Sure, point int) rescued {
	ways := allWays(c, shot, point)
	if len(ways) == 0 {
		return rescued{}
	}
	return slices.MinFunc(ways, compareWays)
}

// pointLists returns all lists of points, the shortest ones first, and of as long ones the least one.
func pointLists(points int) [][]int {
	all := [][]int{nil}
	for i := range points {
		for _, l := range all {
			all = append(all, append(slices.Clone(l), i))
		}
	}
	slices.SortFunc(all, func(a, b []int) int { return cmp.Or(cmp.Compare(len(a), len(b)), slices.Compare(a, b)) })
	return all
}

// areWatched says whether each path has one of some points as an end.
func areWatched(paths []api.FieldPath, points []int) bool {
	for _, p := range paths {
		if !slices.Contains(points, p.One) && !slices.Contains(points, p.Two) {
			return false
		}
	}
	return true
}

func wantedMarshals(c api.FieldCourse) []int {
	all := pointLists(c.Points)
	return all[slices.IndexFunc(all, func(l []int) bool { return areWatched(c.Paths, l) })]
}
