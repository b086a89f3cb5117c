package line

import (
	"slices"

	"nock/api"
)

// plan is a plan as it was given: it may have fouls.
type plan struct{ api.LinePlan }

func (p plan) check() api.Foul {
	return firstFoul(p.checkPosts, p.checkFails, p.checkPeople, p.checkSteps)
}

func (p plan) checkPosts() api.Foul {
	if !within(p.Posts, 1, api.MaxLinePosts) {
		return api.OffLimits
	}
	return api.Fair
}

func (p plan) isPost(post int) bool {
	return within(post, 0, p.Posts-1)
}

func (p plan) checkFails() api.Foul {
	for i, post := range p.Fails {
		if !p.isPost(post) {
			return api.Unknown
		}
		if i > 0 && post <= p.Fails[i-1] {
			return api.OutOfOrder
		}
	}
	return api.Fair
}

func (p plan) checkPeople() api.Foul {
	if len(p.People) > api.MaxLinePeople {
		return api.BadCount
	}
	for i, x := range p.People {
		if !isName(x.Name) {
			return api.BadName
		}
		if slices.ContainsFunc(p.People[:i], func(other api.LinePerson) bool { return other.Name == x.Name }) {
			return api.Twice
		}
		if !p.isPost(x.Post) {
			return api.Unknown
		}
	}
	return api.Fair
}

func (p plan) checkSteps() api.Foul {
	if !within(len(p.Steps), 1, api.MaxLineSteps) {
		return api.BadCount
	}
	for _, x := range p.Steps {
		if !isSignal(x.Signal) || !isNeed(x.Need) {
			return api.OffLimits
		}
	}
	return api.Fair
}

// failing returns the posts that may fail.
func (p plan) failing() set {
	return setOf(p.Fails)
}

// mended returns the plan in which some posts do not fail any more.
func (p plan) mended(posts set) plan {
	p.Fails = p.failing().without(posts).list()
	return p
}

// guarded returns the plan in which some steps have a need instead of their own.
func (p plan) guarded(steps set, need api.LineNeed) plan {
	p.Steps = slices.Clone(p.Steps)
	for _, i := range steps.list() {
		p.Steps[i].Need = need
	}
	return p
}

// checkedPlan is a plan without fouls, with what is looked up in each state: the posts that can miss a signal together, the one with the least list first, and the tables of signals and needs.
type checkedPlan struct {
	plan
	misses  []set
	signals []signal
	needs   []need
}

// checked returns a plan that is known to have no fouls as one that was checked.
func (p plan) checked() checkedPlan {
	return checkedPlan{p, p.failing().parts(), signals(), needs()}
}

// look checks a plan.
func look(given api.LinePlan) (checkedPlan, api.Foul) {
	p := plan{given}
	if f := p.check(); f != api.Fair {
		return checkedPlan{}, f
	}
	return p.checked(), api.Fair
}

// CheckPlan returns the foul of a plan.
func CheckPlan(p api.LinePlan) api.Foul {
	return plan{p}.check()
}
