package field

import (
	"iter"
	"slices"
	"sort"

	"nock/api"
)

// level returns the level distance of a slant, and of a rise that is not above it, or a fall.
func level(slant, rise int) int {
	square := slant*slant - rise*rise
	tooFar := sort.Search(slant+1, func(n int) bool { return n*n > square })
	return tooFar - 1
}

// levels yields the level distances that truths give a peg.
func levels(p api.FieldPeg) iter.Seq[int] {
	return func(yield func(int) bool) {
		for slant := p.Slant.Min; slant <= p.Slant.Max; slant++ {
			for rise := p.Rise.Min; rise <= p.Rise.Max; rise++ {
				if !yield(level(slant, rise)) {
					return
				}
			}
		}
	}
}

// Level returns the level distance of a slant and a rise.
func Level(slant, rise int) (int, api.Foul) {
	if !within(slant, 1, api.MaxFieldSlant) || !within(rise, -api.MaxFieldSlant, api.MaxFieldSlant) {
		return 0, api.OffLimits
	}
	if !within(rise, -slant, slant) {
		return 0, api.Against
	}
	return level(slant, rise), api.Fair
}

// Distance returns the span of the level distances of a peg's target.
func Distance(c api.FieldCourse, peg int) (api.Span, api.Foul) {
	checked, f := lookAtPeg(c, peg)
	if f != api.Fair {
		return api.Span{}, f
	}
	all := slices.Collect(levels(checked.Pegs[peg]))
	return api.Span{Min: slices.Min(all), Max: slices.Max(all)}, api.Fair
}

// Allowed returns whether the level distance of a peg's target is one of the size of its face.
func Allowed(c api.FieldCourse, peg int) (api.Sure, api.Foul) {
	checked, f := lookAtPeg(c, peg)
	if f != api.Fair {
		return api.Maybe, f
	}
	size := checked.Sizes[checked.Pegs[peg].Size]
	// Not all numbers between two level distances need be ones, so that spans are not enough.
	always, ever := true, false
	for n := range levels(checked.Pegs[peg]) {
		is := within(n, size.Min, size.Max)
		always, ever = always && is, ever || is
	}
	return sure(always, ever), api.Fair
}
