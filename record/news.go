package record

import "nock/api"

// spansOf returns the places where a book keeps the spans of facts, by their indexes, if there are such facts.
func spansOf(b *api.RecordBook, what api.RecordNeed) (all []*api.Span, found bool) {
	switch what {
	case api.RecordJudges:
		for i := range b.Events {
			all = append(all, &b.Events[i].Judges)
		}
	case api.RecordLength:
		for i := range b.Events {
			all = append(all, &b.Events[i].Length)
		}
	case api.RecordPapers:
		for i := range b.Claims {
			all = append(all, &b.Claims[i].Papers)
		}
	default:
		return nil, false
	}
	return all, true
}

// Learn returns the book in which the span of a fact is what it has in common with another one.
func Learn(b api.RecordBook, x api.RecordFact, in api.Span) (api.RecordBook, api.Foul) {
	c, f := look(b)
	if f != api.Fair {
		return api.RecordBook{}, f
	}
	o := c.copied()
	spans, found := spansOf(&o, x.What)
	if !found {
		return api.RecordBook{}, api.OffLimits
	}
	if f := checkIndex(x.Index, len(spans)); f != api.Fair {
		return api.RecordBook{}, f
	}
	if !isSpan(in, 0, api.MaxRecordLength) {
		return api.RecordBook{}, api.OffLimits
	}
	both, found := common(*spans[x.Index], in)
	if !found {
		return api.RecordBook{}, api.Against
	}
	*spans[x.Index] = both
	return o, api.Fair
}

// Withdraw returns the book in which a claim is gone from a day on.
func Withdraw(b api.RecordBook, claim, day int) (api.RecordBook, api.Foul) {
	c, f := lookAtClaim(b, claim)
	if f != api.Fair {
		return api.RecordBook{}, f
	}
	if f := checkDay(day); f != api.Fair {
		return api.RecordBook{}, f
	}
	x := c.claim(claim)
	if x.Gone != notGone || day < x.event.Day {
		return api.RecordBook{}, api.OutOfOrder
	}
	o := c.copied()
	o.Claims[claim].Gone = day
	return o, api.Fair
}

// Add returns the book with one more claim.
func Add(b api.RecordBook, c api.RecordClaim) (api.RecordBook, api.Foul) {
	old, f := look(b)
	if f != api.Fair {
		return api.RecordBook{}, f
	}
	o := old.copied()
	o.Claims = append(o.Claims, c)
	if f := CheckBook(o); f != api.Fair {
		return api.RecordBook{}, f
	}
	return o, api.Fair
}
