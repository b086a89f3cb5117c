package line

import (
	"slices"

	"nock/api"
)

// track is a state to which runs lead, and the last move of the least of the shortest ones; from is the index of the track before it.
type track struct {
	state
	from int
	by   move
}

// search goes through the states to which runs lead, until one is wanted, which is then the last of the tracks. Since the queue is in the order of the runs, shorter ones first, and moves are tried in theirs, a state is reached by the least of its shortest runs first.
func (c checkedPlan) search(wanted func(s state) bool) (tracks []track, found bool) {
	seen := make(map[state]bool)
	reach := func(t track) bool {
		if seen[t.state] {
			return false
		}
		seen[t.state] = true
		tracks = append(tracks, t)
		return wanted(t.state)
	}
	if reach(track{}) {
		return tracks, true
	}
search:
	for i := 0; i < len(tracks); i++ {
		here := tracks[i].state
		for m := range c.moves(here) {
			found = reach(track{c.after(here, m), i, m})
			if found {
				break search
			}
		}
	}
	return tracks, found
}

// shortest returns the shortest run to a state that is wanted, and the least of several.
func (c checkedPlan) shortest(wanted func(s state) bool) (run []api.LineMove, found bool) {
	tracks, found := c.search(wanted)
	if !found {
		return nil, false
	}
	// The first track is the beginning, to which no move led.
	for i := len(tracks) - 1; i > 0; i = tracks[i].from {
		run = append(run, tracks[i].by.told())
	}
	slices.Reverse(run)
	return run, true
}

func (c checkedPlan) isSafe() bool {
	_, found := c.search(c.isDangerous)
	return !found
}

// Count returns how many states runs lead to.
func Count(p api.LinePlan) (int, api.Foul) {
	c, f := look(p)
	if f != api.Fair {
		return 0, f
	}
	tracks, _ := c.search(func(s state) bool { return false })
	return len(tracks), api.Fair
}

// Risk returns the shortest run that leads to a dangerous state.
func Risk(p api.LinePlan) (l []api.LineMove, found bool, f api.Foul) {
	c, f := look(p)
	if f != api.Fair {
		return nil, false, f
	}
	l, found = c.shortest(c.isDangerous)
	return l, found, api.Fair
}

// Way returns the shortest run that leads to a state.
func Way(p api.LinePlan, s api.LineState) (l []api.LineMove, found bool, f api.Foul) {
	c, to, f := lookAt(p, s)
	if f != api.Fair {
		return nil, false, f
	}
	l, found = c.shortest(func(s state) bool { return s == to })
	return l, found, api.Fair
}
