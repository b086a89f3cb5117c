package field

import (
	"slices"

	"nock/api"
)

// wayOut is the point to which rescue leads.
const wayOut = 0

// way is a way through the wood: its points, and how long it is.
type way struct {
	long   int
	points []int
}

func (w way) end() int {
	return w.points[len(w.points)-1]
}

// key is by what ways are compared: the shortest one is the least.
func (w way) key() []int {
	return append([]int{w.long}, w.points...)
}

// on returns the ways that are longer than this one by one of some paths.
func (w way) on(paths []api.FieldPath) []way {
	var all []way
	for _, p := range paths {
		next := p.Two
		switch w.end() {
		case p.One:
		case p.Two:
			next = p.One
		default:
			continue
		}
		all = append(all, way{w.long + p.Long, append(slices.Clone(w.points), next)})
	}
	return all
}

// open returns the paths that no lane crosses of a peg where a group can be in a minute.
func (c checkedCourse) open(minute int) []api.FieldPath {
	crossed := make(map[int]bool)
	for peg, is := range c.shot(minute) {
		if is == api.No {
			continue
		}
		for _, path := range c.Pegs[peg].Lane {
			crossed[path] = true
		}
	}
	var paths []api.FieldPath
	for i, p := range c.Paths {
		if !crossed[i] {
			paths = append(paths, p)
		}
	}
	return paths
}

// rescue returns the shortest way out from a point on some paths, and of several the least list of points. The least way is tried first, so that each point is reached by its best way first: of two ways to one point the one with the less list stays so if both go on alike.
func rescue(point int, paths []api.FieldPath) (best way, found bool) {
	reached := make(map[int]bool)
	ways := []way{{points: []int{point}}}
search:
	for len(ways) > 0 {
		slices.SortFunc(ways, compareBy(way.key))
		w := ways[0]
		ways = ways[1:]
		switch at := w.end(); {
		case reached[at]:
			continue
		case at == wayOut:
			best, found = w, true
			break search
		default:
			reached[at] = true
			ways = append(ways, w.on(paths)...)
		}
	}
	return best, found
}

// Rescue returns the shortest way from a point to the way out that crosses no lane where a group can be in a minute.
func Rescue(c api.FieldCourse, point, minute int) (points []int, long int, found bool, f api.Foul) {
	checked, f := look(c)
	if f != api.Fair {
		return nil, 0, false, f
	}
	if !checked.isPoint(point) {
		return nil, 0, false, api.Unknown
	}
	if f := checkMinute(minute); f != api.Fair {
		return nil, 0, false, f
	}
	w, found := rescue(point, checked.open(minute))
	return w.points, w.long, found, api.Fair
}
