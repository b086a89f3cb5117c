package line

import (
	"sync"

	"nock/api"
)

// fewestChanged returns the fewest posts, or steps, such that the plan that is changed there is safe. Each set of them is tried on its own.
func fewestChanged(parts []set, changed func(some set) plan) (list []int, found bool) {
	safe := make(chan []int, len(parts))
	var tries sync.WaitGroup
	for _, some := range parts {
		tries.Go(func() {
			if changed(some).checked().isSafe() {
				safe <- some.list()
			}
		})
	}
	tries.Wait()
	close(safe)
	return fewest(safe)
}

// Repair returns the fewest posts that must not fail if the plan is to be safe.
func Repair(p api.LinePlan) (posts []int, found bool, f api.Foul) {
	c, f := look(p)
	if f != api.Fair {
		return nil, false, f
	}
	posts, found = fewestChanged(c.failing().parts(), c.mended)
	return posts, found, api.Fair
}

// Guard returns the fewest steps that must have a need if the plan is to be safe.
func Guard(p api.LinePlan, need api.LineNeed) (steps []int, found bool, f api.Foul) {
	c, f := look(p)
	if f != api.Fair {
		return nil, false, f
	}
	if !isNeed(need) {
		return nil, false, api.OffLimits
	}
	guarded := func(steps set) plan { return c.guarded(steps, need) }
	steps, found = fewestChanged(firstOnes(len(c.Steps)).parts(), guarded)
	return steps, found, api.Fair
}
