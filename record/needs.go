package record

import "nock/api"

// known is what is known of a need of a claim: it is certain, or open.
type known interface {
	sure() api.Sure
}

// certain says that a need is met in all truths, or in none.
type certain bool

// open is a need that is met in some truths: just in those in which a fact, which can have the numbers of a span, has a right one.
type open struct {
	fact       api.RecordFact
	can, right api.Span
}

func (k certain) sure() api.Sure {
	return sure(bool(k), bool(k))
}

func (k open) sure() api.Sure {
	return api.Maybe
}

// knownBy returns what is known of a need by the numbers that a fact can have, and those that are right.
func knownBy(fact api.RecordFact, can, right api.Span) known {
	if isSpan(can, right.Min, right.Max) {
		return certain(true)
	}
	if _, ever := common(can, right); !ever {
		return certain(false)
	}
	return open{fact, can, right}
}

// claim is a claim of a book, its index, its event, its kind, and what is known of its needs, in their order.
type claim struct {
	api.RecordClaim
	index int
	event api.RecordEvent
	kind  api.RecordKind
	needs []known
}

// need is something that a claim needs, and what tells what is known of it.
type need struct {
	what  api.RecordNeed
	known func(c claim) known
}

// allNeeds returns the needs in their order.
func allNeeds() []need {
	return []need{
		{what: api.RecordStar, known: claim.star},
		{what: api.RecordJudges, known: claim.judges},
		{what: api.RecordLength, known: claim.length},
		{what: api.RecordPapers, known: claim.papers},
	}
}

func (c claim) star() known {
	return certain(c.event.Star >= c.kind.Star)
}

func (c claim) judges() known {
	right := api.Span{Min: c.kind.Judges, Max: api.MaxRecordJudges}
	return knownBy(api.RecordFact{What: api.RecordJudges, Index: c.Event}, c.event.Judges, right)
}

func (c claim) length() known {
	right := api.Span{Min: c.kind.Length - c.kind.Slack, Max: c.kind.Length + c.kind.Slack}
	return knownBy(api.RecordFact{What: api.RecordLength, Index: c.Event}, c.event.Length, right)
}

func (c claim) papers() known {
	right := api.Span{Min: c.event.Day, Max: c.event.Day + c.kind.Within}
	return knownBy(api.RecordFact{What: api.RecordPapers, Index: c.index}, c.Papers, right)
}

// sure returns whether a claim stands. All its needs depend on different facts: so there is a truth in which it meets all that it can meet, and one in which it meets none that is open.
func (c claim) sure() api.Sure {
	always, ever := true, true
	for _, k := range c.needs {
		always = always && k.sure() == api.Yes
		ever = ever && k.sure() != api.No
	}
	return sure(always, ever)
}

// claim returns the claim with an index.
func (b checkedBook) claim(i int) claim {
	given := b.Claims[i]
	c := claim{RecordClaim: given, index: i, event: b.Events[given.Event], kind: b.Kinds[given.Kind]}
	for _, n := range allNeeds() {
		c.needs = append(c.needs, n.known(c))
	}
	return c
}

// countsOn says whether a claim counts on a day.
func (c claim) countsOn(day int) bool {
	return c.event.Day <= day && (c.Gone == notGone || day < c.Gone)
}

// counting returns the claims that count on a day, and are wanted.
func (b checkedBook) counting(day int, isWanted func(c claim) bool) []claim {
	var all []claim
	for i := range b.Claims {
		if c := b.claim(i); c.countsOn(day) && isWanted(c) {
			all = append(all, c)
		}
	}
	return all
}

// Needs returns for each need whether a claim meets it.
func Needs(b api.RecordBook, claim int) ([]api.Sure, api.Foul) {
	c, f := lookAtClaim(b, claim)
	if f != api.Fair {
		return nil, f
	}
	var all []api.Sure
	for _, k := range c.claim(claim).needs {
		all = append(all, k.sure())
	}
	return all, api.Fair
}

// Stands returns whether a claim stands.
func Stands(b api.RecordBook, claim int) (api.Sure, api.Foul) {
	c, f := lookAtClaim(b, claim)
	if f != api.Fair {
		return api.Maybe, f
	}
	return c.claim(claim).sure(), api.Fair
}

// Lacks returns the needs that a claim does not surely meet, and whether it stands in some truth.
func Lacks(b api.RecordBook, claim int) (needs []api.RecordNeed, can bool, f api.Foul) {
	c, f := lookAtClaim(b, claim)
	if f != api.Fair {
		return nil, false, f
	}
	x := c.claim(claim)
	for i, n := range allNeeds() {
		if x.needs[i].sure() != api.Yes {
			needs = append(needs, n.what)
		}
	}
	return needs, x.sure() != api.No, api.Fair
}
