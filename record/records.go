package record

import (
	"maps"
	"slices"

	"nock/api"
)

// noRecord is the record of a kind of which no claim stands.
const noRecord = -1

// recordIn returns the record of claims of one kind in a truth.
func recordIn(t truth, claims []claim) int {
	record := noRecord
	for _, c := range claims {
		if t.stands(c) {
			record = max(record, c.Score)
		}
	}
	return record
}

// claimsOf checks a book, that it has a kind, and a day, and returns the claims of the kind that count on the day.
func claimsOf(given api.RecordBook, kind, day int) ([]claim, api.Foul) {
	b, f := look(given)
	if f != api.Fair {
		return nil, f
	}
	if f := checkIndex(kind, len(b.Kinds)); f != api.Fair {
		return nil, f
	}
	if f := checkDay(day); f != api.Fair {
		return nil, f
	}
	isOfKind := func(c claim) bool { return c.Kind == kind }
	return b.counting(day, isOfKind), api.Fair
}

// Records returns the records that truths give a kind on a day, ascending.
func Records(b api.RecordBook, kind, day int) ([]int, api.Foul) {
	claims, f := claimsOf(b, kind, day)
	if f != api.Fair {
		return nil, f
	}
	found := make(map[int]bool)
	for t := range truths(claims) {
		found[recordIn(t, claims)] = true
	}
	return slices.Sorted(maps.Keys(found)), api.Fair
}

// Holders returns the claims that hold the record of a kind on a day in all truths, and in some.
func Holders(b api.RecordBook, kind, day int) (sure, can []int, f api.Foul) {
	claims, f := claimsOf(b, kind, day)
	if f != api.Fair {
		return nil, nil, f
	}
	many, held := 0, make([]int, len(claims))
	for t := range truths(claims) {
		many++
		record := recordIn(t, claims)
		for i, c := range claims {
			if c.Score == record && t.stands(c) {
				held[i]++
			}
		}
	}
	for i, c := range claims {
		if held[i] == many {
			sure = append(sure, c.index)
		}
		if held[i] > 0 {
			can = append(can, c.index)
		}
	}
	return sure, can, api.Fair
}
