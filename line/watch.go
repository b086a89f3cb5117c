package line

import (
	"slices"

	"nock/api"
)

// watch is a watch as it was given: it may have fouls.
type watch struct{ api.LineWatch }

func (w watch) check() api.Foul {
	return firstFoul(w.checkOpen, w.checkCount, w.checkArchers)
}

func (w watch) checkOpen() api.Foul {
	if !isTime(w.Open) || !isTime(w.Shut) {
		return api.OffLimits
	}
	if w.Shut < w.Open {
		return api.OutOfOrder
	}
	return api.Fair
}

func isTime(n int) bool {
	return within(n, 0, api.MaxLineTime)
}

func (w watch) checkCount() api.Foul {
	if !within(w.Count, 1, api.MaxLineShots) {
		return api.OffLimits
	}
	return api.Fair
}

func (w watch) checkArchers() api.Foul {
	if len(w.Archers) > api.MaxLineArchers {
		return api.BadCount
	}
	for i, a := range w.Archers {
		if !isName(a.Name) {
			return api.BadName
		}
		if slices.ContainsFunc(w.Archers[:i], func(other api.LineArcher) bool { return other.Name == a.Name }) {
			return api.Twice
		}
		if f := w.archer(i).check(); f != api.Fair {
			return f
		}
	}
	return api.Fair
}

// Numbers of a shot: an inner ten, and the ten that it is worth.
const (
	ten      = 10
	innerTen = 11
)

// archer is an archer of a watch.
type archer struct {
	api.LineArcher
	watch
}

func (w watch) archer(index int) archer {
	return archer{w.Archers[index], w}
}

// check looks at all but the name.
func (a archer) check() api.Foul {
	return firstFoul(a.checkExtra, a.checkShots, a.checkTimes)
}

func (a archer) checkExtra() api.Foul {
	if !within(a.Extra, 0, api.MaxLineExtra) {
		return api.OffLimits
	}
	return api.Fair
}

func (a archer) checkShots() api.Foul {
	if len(a.Shots) > api.MaxLineShots {
		return api.BadCount
	}
	for _, x := range a.Shots {
		if !isTime(x.At.Min) || !isTime(x.At.Max) || x.At.Min > x.At.Max || !within(x.Number, 0, innerTen) {
			return api.OffLimits
		}
	}
	return api.Fair
}

func (a archer) checkTimes() api.Foul {
	if _, found := narrowed(a.spans()); !found {
		return api.Against
	}
	return api.Fair
}

// lookAtArcher checks a watch, and that it has an archer.
func lookAtArcher(given api.LineWatch, index int) (archer, api.Foul) {
	w := watch{given}
	if f := w.check(); f != api.Fair {
		return archer{}, f
	}
	if !within(index, 0, len(w.Archers)-1) {
		return archer{}, api.Unknown
	}
	return w.archer(index), api.Fair
}

// CheckWatch returns the foul of a watch.
func CheckWatch(w api.LineWatch) api.Foul {
	return watch{w}.check()
}
