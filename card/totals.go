package card

import (
	"slices"

	"nock/api"
)

// knownEnd is what is known of an end that fits.
type knownEnd struct {
	index int
	knowledge
}

// known looks at each end on its own. It returns what is known of the ends, nothing of those that do not fit, and whether all of them fit.
func (c checkedCard) known() (ends []knowledge, fit bool) {
	found := make(chan knownEnd)
	misfits := make(chan int)
	for i := range c.Ends {
		go func() {
			if k := c.end(i).known(); k.fits() {
				found <- knownEnd{i, k}
			} else {
				misfits <- i
			}
		}()
	}
	ends, fit = make([]knowledge, len(c.Ends)), true
	// Each end sends just once, so none of them is left when this ends.
	for range c.Ends {
		select {
		case k := <-found:
			ends[k.index] = k.knowledge
		case <-misfits:
			fit = false
		}
	}
	return ends, fit
}

// totals returns the totals of all truths, the least first.
func (c checkedCard) totals() ([]api.FaceTotal, api.Foul) {
	ends, fit := c.known()
	if !fit {
		return nil, api.Against
	}
	all := map[api.FaceTotal]bool{{}: true}
	for _, k := range ends {
		all = sums(all, k.totals)
	}
	return ordered(all, compareTotals), api.Fair
}

// sums returns the sums of each total of one set and each one of another.
func sums(a, b map[api.FaceTotal]bool) map[api.FaceTotal]bool {
	all := make(map[api.FaceTotal]bool)
	for x := range a {
		for y := range b {
			all[api.FaceTotal{Value: x.Value + y.Value, Inner: x.Inner + y.Inner}] = true
		}
	}
	return all
}

// isAbove says whether one total is above another one.
func isAbove(a, b api.FaceTotal) bool {
	return compareTotals(a, b) > 0
}

// All returns the totals of all truths of a card.
func All(c api.CardSheet) ([]api.FaceTotal, api.Foul) {
	checked, f := look(c)
	if f != api.Fair {
		return nil, f
	}
	return checked.totals()
}

// Official returns the least total of a card.
func Official(c api.CardSheet) (api.FaceTotal, api.Foul) {
	all, f := All(c)
	if f != api.Fair {
		return api.FaceTotal{}, f
	}
	return all[0], api.Fair
}

// Doubts returns the arrows to which truths of their ends give more than one mark.
func Doubts(c api.CardSheet) ([]api.CardPlace, api.Foul) {
	checked, f := look(c)
	if f != api.Fair {
		return nil, f
	}
	ends, _ := checked.known()
	var doubts []api.CardPlace
	for i, k := range ends {
		for arrow := range checked.Rule.Arrows {
			if len(k.marksOf(arrow)) > 1 {
				doubts = append(doubts, api.CardPlace{End: i, Arrow: arrow})
			}
		}
	}
	return doubts, api.Fair
}

// Beats returns whether the total of one card is above that of another one.
func Beats(a, b api.CardSheet) (api.Sure, api.Foul) {
	one, f := look(a)
	if f != api.Fair {
		return api.Maybe, f
	}
	two, f := look(b)
	if f != api.Fair {
		return api.Maybe, f
	}
	ones, f := one.totals()
	if f != api.Fair {
		return api.Maybe, f
	}
	twos, f := two.totals()
	if f != api.Fair {
		return api.Maybe, f
	}
	is := isAbove(slices.MaxFunc(ones, compareTotals), slices.MinFunc(twos, compareTotals))
	isNot := !isAbove(slices.MinFunc(ones, compareTotals), slices.MaxFunc(twos, compareTotals))
	return sure(is, isNot), api.Fair
}
