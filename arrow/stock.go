package arrow

import (
	"slices"

	"nock/api"
)

// measure is one of the things that are measured of a shaft.
type measure struct {
	span    func(x *api.ArrowShaft) *api.Span
	allowed func(r api.ArrowRule) int
}

// measures returns what is measured, by api.ArrowWhat.
func measures() []measure {
	return []measure{
		api.ArrowSpine: {
			span:    func(x *api.ArrowShaft) *api.Span { return &x.Spine },
			allowed: func(r api.ArrowRule) int { return r.Spine },
		},
		api.ArrowLength: {
			span:    func(x *api.ArrowShaft) *api.Span { return &x.Length },
			allowed: func(r api.ArrowRule) int { return r.Length },
		},
		api.ArrowWeight: {
			span:    func(x *api.ArrowShaft) *api.Span { return &x.Weight },
			allowed: func(r api.ArrowRule) int { return r.Weight },
		},
	}
}

// stock is a stock as it was given: it may have fouls.
type stock struct{ api.ArrowStock }

func (s stock) check() api.Foul {
	return firstFoul(s.checkRule, s.checkCount, s.checkShafts)
}

func (s stock) checkRule() api.Foul {
	var checks []func() api.Foul
	for _, by := range measures() {
		checks = append(checks, limits(by.allowed(s.Rule), 0, api.MaxArrowNumber))
	}
	checks = append(checks, limits(s.Rule.Many, 2, api.MaxArrowMany))
	return firstFoul(checks...)
}

func (s stock) checkCount() api.Foul {
	if len(s.Shafts) > api.MaxArrows {
		return api.BadCount
	}
	return api.Fair
}

func (s stock) checkShafts() api.Foul {
	for shaft := range s.Shafts {
		if f := s.checkShaft(shaft); f != api.Fair {
			return f
		}
	}
	return api.Fair
}

func (s stock) checkShaft(shaft int) api.Foul {
	x := s.Shafts[shaft]
	if !isName(x.Name) {
		return api.BadName
	}
	same := func(earlier api.ArrowShaft) bool { return earlier.Name == x.Name }
	if slices.ContainsFunc(s.Shafts[:shaft], same) {
		return api.Twice
	}
	var checks []func() api.Foul
	for _, by := range measures() {
		checks = append(checks, spanLimits(*by.span(&x), 0, api.MaxArrowNumber))
	}
	return firstFoul(checks...)
}

func isName(text string) bool {
	if len(text) < 1 || len(text) > api.MaxName {
		return false
	}
	for i := range len(text) {
		letter := 'a' <= text[i] && text[i] <= 'z'
		digit := '0' <= text[i] && text[i] <= '9'
		if !letter && (i == 0 || !digit) {
			return false
		}
	}
	return true
}

func (s stock) has(shaft int) bool {
	return 0 <= shaft && shaft < len(s.Shafts)
}

// hasShaft returns a check that there is such a shaft.
func (s stock) hasShaft(shaft int) func() api.Foul {
	return func() api.Foul {
		if !s.has(shaft) {
			return api.Unknown
		}
		return api.Fair
	}
}

// hasList returns a check that a list is one of shafts.
func (s stock) hasList(list []int) func() api.Foul {
	return func() api.Foul {
		for i, shaft := range list {
			if !s.has(shaft) {
				return api.Unknown
			}
			if i > 0 && shaft <= list[i-1] {
				return api.OutOfOrder
			}
		}
		return api.Fair
	}
}

// near says whether two shafts match, as far as one measure goes.
func (s stock) near(one, two int, by measure) api.Sure {
	a, b := *by.span(&s.Shafts[one]), *by.span(&s.Shafts[two])
	allowed := by.allowed(s.Rule)
	switch {
	case max(a.Max-b.Min, b.Max-a.Min) <= allowed:
		return api.Yes
	case max(a.Min-b.Max, b.Min-a.Max) > allowed:
		return api.No
	}
	return api.Maybe
}

// matchTwo says whether two shafts match.
func (s stock) matchTwo(one, two int) api.Sure {
	sure := api.Yes
	for _, by := range measures() {
		sure = both(sure, s.near(one, two, by))
	}
	return sure
}

// both says whether two things are so together that are free of each other.
func both(a, b api.Sure) api.Sure {
	switch {
	case a == api.No || b == api.No:
		return api.No
	case a == api.Yes && b == api.Yes:
		return api.Yes
	}
	return api.Maybe
}

// checkedStock is a stock without fouls, and whether two of its shafts match: pairs[one][two], where one is before two.
type checkedStock struct {
	stock
	pairs [api.MaxArrows][api.MaxArrows]api.Sure
}

// checked looks at all pairs of a stock that has no foul.
func checked(s stock) checkedStock {
	c := checkedStock{stock: s}
	for two := range c.Shafts {
		for one := range two {
			c.pairs[one][two] = c.matchTwo(one, two)
		}
	}
	return c
}

// match says whether the shafts of a list match.
//
// Pairs decide this, though a shaft has the same numbers in each of its pairs: spans any two of which come near enough to each other have numbers all of which are near enough, and numbers of which no two are too far apart match.
func (c checkedStock) match(list []int) api.Sure {
	sure := api.Yes
	for i, two := range list {
		for _, one := range list[:i] {
			sure = both(sure, c.pairs[one][two])
		}
	}
	return sure
}

// CheckStock returns the foul of a stock.
func CheckStock(s api.ArrowStock) api.Foul {
	return stock{s}.check()
}

// Match returns whether the shafts of a list match.
func Match(s api.ArrowStock, list []int) (api.Sure, api.Foul) {
	given := stock{s}
	if f := firstFoul(given.check, given.hasList(list)); f != api.Fair {
		return api.Maybe, f
	}
	return checked(given).match(list), api.Fair
}

// Apart returns by what two shafts of a list may differ too much.
func Apart(s api.ArrowStock, list []int) ([]api.ArrowApart, api.Foul) {
	given := stock{s}
	if f := firstFoul(given.check, given.hasList(list)); f != api.Fair {
		return nil, f
	}
	var apart []api.ArrowApart
	for i, one := range list {
		for _, two := range list[i+1:] {
			for what, by := range measures() {
				if sure := given.near(one, two, by); sure != api.Yes {
					apart = append(apart, api.ArrowApart{One: one, Two: two, What: api.ArrowWhat(what), Match: sure})
				}
			}
		}
	}
	return apart, api.Fair
}

// Measure returns the stock after one more measurement of a shaft.
func Measure(s api.ArrowStock, shaft int, what api.ArrowWhat, x api.Span) (api.ArrowStock, api.Foul) {
	given := stock{s}
	f := firstFoul(
		given.check,
		given.hasShaft(shaft),
		limits(int(what), int(api.ArrowSpine), int(api.ArrowWeight)),
		spanLimits(x, 0, api.MaxArrowNumber),
	)
	if f != api.Fair {
		return api.ArrowStock{}, f
	}
	s.Shafts = slices.Clone(s.Shafts)
	known := measures()[what].span(&s.Shafts[shaft])
	narrow, found := common(*known, x)
	if !found {
		return api.ArrowStock{}, api.Against
	}
	*known = narrow
	return s, api.Fair
}
