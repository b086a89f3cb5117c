package field

import (
	"slices"

	"nock/api"
)

// set is some points: the bit of each of them is set.
type set int

func (s set) has(point int) bool {
	return s&(1<<point) != 0
}

// list returns the points of a set, ascending.
func (s set) list() []int {
	var points []int
	for point := range api.MaxFieldPoints {
		if s.has(point) {
			points = append(points, point)
		}
	}
	return points
}

// watches says whether each path has one of the points as an end.
func (s set) watches(paths []api.FieldPath) bool {
	for _, p := range paths {
		if !s.has(p.One) && !s.has(p.Two) {
			return false
		}
	}
	return true
}

// fewestKey is by what lists are compared if the one with the fewest elements is the least.
func fewestKey(list []int) []int {
	return append([]int{len(list)}, list...)
}

// Marshals returns the fewest points such that each path has one of them as an end, and the least list of several.
func Marshals(c api.FieldCourse) ([]int, api.Foul) {
	checked, f := look(c)
	if f != api.Fair {
		return nil, f
	}
	var lists [][]int
	for some := range set(1) << checked.Points {
		if some.watches(checked.Paths) {
			lists = append(lists, some.list())
		}
	}
	// There is always one, since all points together watch all paths.
	return slices.MinFunc(lists, compareBy(fewestKey)), api.Fair
}
