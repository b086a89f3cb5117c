package field

import (
	"slices"

	"nock/api"
)

// course is a course as it was given: it may have fouls.
type course struct{ api.FieldCourse }

func (c course) check() api.Foul {
	return firstFoul(c.checkNumbers, c.checkSizes, c.checkPaths, c.checkPegs, c.checkGroups)
}

func (c course) checkNumbers() api.Foul {
	if !within(c.Limit, 1, api.MaxFieldLimit) || !within(c.Points, 1, api.MaxFieldPoints) {
		return api.OffLimits
	}
	return api.Fair
}

func (c course) checkSizes() api.Foul {
	return checkElements(len(c.Sizes), 1, api.MaxFieldSizes, c.checkSize)
}

func (c course) checkPaths() api.Foul {
	return checkElements(len(c.Paths), 0, api.MaxFieldPaths, c.checkPath)
}

func (c course) checkPegs() api.Foul {
	return checkElements(len(c.Pegs), 2, api.MaxFieldPegs, c.checkPeg)
}

func (c course) checkGroups() api.Foul {
	return checkElements(len(c.Groups), 0, api.MaxFieldGroups, c.checkGroup)
}

func (c course) isPoint(point int) bool {
	return within(point, 0, c.Points-1)
}

func (c course) isPeg(peg int) bool {
	return within(peg, 0, len(c.Pegs)-1)
}

func (c course) checkSize(i int) api.Foul {
	if !isSpan(c.Sizes[i], 0, api.MaxFieldSlant) {
		return api.OffLimits
	}
	return api.Fair
}

func (c course) checkPath(i int) api.Foul {
	p := c.Paths[i]
	isSame := func(other api.FieldPath) bool {
		return other.One == p.One && other.Two == p.Two || other.One == p.Two && other.Two == p.One
	}
	switch {
	case !c.isPoint(p.One) || !c.isPoint(p.Two):
		return api.Unknown
	case p.One == p.Two:
		return api.Circular
	case !within(p.Long, 1, api.MaxFieldLong):
		return api.OffLimits
	case slices.ContainsFunc(c.Paths[:i], isSame):
		return api.Twice
	}
	return api.Fair
}

func (c course) checkPeg(i int) api.Foul {
	p := c.Pegs[i]
	isSame := func(other api.FieldPeg) bool { return other.Name == p.Name }
	switch {
	case !isName(p.Name):
		return api.BadName
	case slices.ContainsFunc(c.Pegs[:i], isSame):
		return api.Twice
	case !isSpan(p.Slant, 1, api.MaxFieldSlant) || !isSpan(p.Rise, -api.MaxFieldSlant, api.MaxFieldSlant):
		return api.OffLimits
	case !isSpan(p.Rise, -p.Slant.Min, p.Slant.Min):
		return api.Against
	case !within(p.Size, 0, len(c.Sizes)-1) || !c.isPoint(p.At):
		return api.Unknown
	case !isSpan(p.Shoot, 1, api.MaxFieldMinutes) || !isSpan(p.Walk, 0, api.MaxFieldMinutes):
		return api.OffLimits
	}
	return c.checkLane(p.Lane)
}

func (c course) checkLane(lane []int) api.Foul {
	for i, path := range lane {
		if !within(path, 0, len(c.Paths)-1) {
			return api.Unknown
		}
		if i > 0 && path <= lane[i-1] {
			return api.OutOfOrder
		}
	}
	return api.Fair
}

func (c course) checkGroup(i int) api.Foul {
	g := c.Groups[i]
	isSame := func(other api.FieldGroup) bool { return other.Name == g.Name }
	startsThere := func(other api.FieldGroup) bool { return other.Start == g.Start }
	switch {
	case !isName(g.Name):
		return api.BadName
	case slices.ContainsFunc(c.Groups[:i], isSame):
		return api.Twice
	case !c.isPeg(g.Start):
		return api.Unknown
	case slices.ContainsFunc(c.Groups[:i], startsThere):
		return api.Against
	}
	return checkDelay(g.Delay)
}

func checkDelay(delay int) api.Foul {
	if !within(delay, 0, api.MaxFieldDelay) {
		return api.OffLimits
	}
	return api.Fair
}

// copied returns a course that shares no memory with this one.
func (c course) copied() api.FieldCourse {
	o := c.FieldCourse
	o.Sizes, o.Paths, o.Groups = slices.Clone(o.Sizes), slices.Clone(o.Paths), slices.Clone(o.Groups)
	o.Pegs = slices.Clone(o.Pegs)
	for i, p := range o.Pegs {
		o.Pegs[i].Lane = slices.Clone(p.Lane)
	}
	return o
}

// checkedCourse is a course without fouls.
type checkedCourse struct{ course }

// look checks a course.
func look(given api.FieldCourse) (checkedCourse, api.Foul) {
	c := course{given}
	if f := c.check(); f != api.Fair {
		return checkedCourse{}, f
	}
	return checkedCourse{c}, api.Fair
}

// lookAtPeg checks a course, and that it has a peg.
func lookAtPeg(given api.FieldCourse, peg int) (checkedCourse, api.Foul) {
	c, f := look(given)
	if f != api.Fair {
		return checkedCourse{}, f
	}
	if !c.isPeg(peg) {
		return checkedCourse{}, api.Unknown
	}
	return c, api.Fair
}

// lookAtGroup checks a course, and that it has a group.
func lookAtGroup(given api.FieldCourse, group int) (checkedCourse, api.Foul) {
	c, f := look(given)
	if f != api.Fair {
		return checkedCourse{}, f
	}
	if !within(group, 0, len(c.Groups)-1) {
		return checkedCourse{}, api.Unknown
	}
	return c, api.Fair
}

func checkMinute(minute int) api.Foul {
	if !within(minute, 0, api.MaxFieldLimit) {
		return api.OffLimits
	}
	return api.Fair
}

// CheckCourse returns the foul of a course.
func CheckCourse(c api.FieldCourse) api.Foul {
	return course{c}.check()
}

// Delayed returns the course whose groups start in other minutes.
func Delayed(c api.FieldCourse, delays []int) (api.FieldCourse, api.Foul) {
	checked, f := look(c)
	if f != api.Fair {
		return api.FieldCourse{}, f
	}
	if len(delays) != len(c.Groups) {
		return api.FieldCourse{}, api.BadCount
	}
	o := checked.copied()
	for i, delay := range delays {
		if f := checkDelay(delay); f != api.Fair {
			return api.FieldCourse{}, f
		}
		o.Groups[i].Delay = delay
	}
	return o, api.Fair
}

// Narrow returns the course in which the times of a peg are what they have in common with other spans.
func Narrow(c api.FieldCourse, peg int, shoot, walk api.Span) (api.FieldCourse, api.Foul) {
	checked, f := lookAtPeg(c, peg)
	if f != api.Fair {
		return api.FieldCourse{}, f
	}
	if !isSpan(shoot, 0, api.MaxFieldMinutes) || !isSpan(walk, 0, api.MaxFieldMinutes) {
		return api.FieldCourse{}, api.OffLimits
	}
	o := checked.copied()
	p := &o.Pegs[peg]
	var shoots, walks bool
	p.Shoot, shoots = common(p.Shoot, shoot)
	p.Walk, walks = common(p.Walk, walk)
	if !shoots || !walks {
		return api.FieldCourse{}, api.Against
	}
	return o, api.Fair
}
