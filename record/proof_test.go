package record_test

import (
	"cmp"
	"math/rand"
	"slices"
	"testing"

	"nock/api"
)

// decides says whether the record of a kind on a day is the same in all truths with the same facts of a list.
func decides(b api.RecordBook, kind, day int, list []api.RecordFact) bool {
	type finding [10]int
	records := make(map[finding]int)
	for x := range truths(b) {
		var found finding
		for i, fact := range list {
			found[i] = x[fact]
		}
		record, _ := recordIn(b, x, kind, day)
		if old, is := records[found]; is && old != record {
			return false
		}
		records[found] = record
	}
	return true
}

// allLists returns all lists of some facts: those of fewer facts first, and of as many the least one first.
func allLists(all []api.RecordFact) [][]api.RecordFact {
	var lists [][]api.RecordFact
	for bits := range 1 << len(all) {
		var l []api.RecordFact
		for i, x := range all {
			if bits>>i&1 == 1 {
				l = append(l, x)
			}
		}
		lists = append(lists, l)
	}
	slices.SortFunc(lists, func(a, b []api.RecordFact) int {
		return cmp.Or(cmp.Compare(len(a), len(b)), slices.CompareFunc(a, b, func(x, y api.RecordFact) int {
			return cmp.Or(cmp.Compare(x.What, y.What), cmp.Compare(x.Index, y.Index))
		}))
	})
	return lists
}

// P9.2, P4: Proof returns the first of all lists that decide the record.
func TestProofOfAllLists(t *testing.T) {
	r := rand.New(rand.NewSource(103))
	var seen [4]int
	for range 250 {
		b := openRandomBook(r, pick(r, []scale{small, great}), 300)
		kind, day := r.Intn(len(b.Kinds)), someDay(r, b)
		lists := allLists(allFacts(b))
		i := slices.IndexFunc(lists, func(l []api.RecordFact) bool { return decides(b, kind, day, l) })
		if l := proofOf(t, b, kind, day); !slices.Equal(l, lists[i]) {
			t.Fatal(b, kind, day, l, lists[i])
		}
		seen[min(len(lists[i]), 3)]++
	}
	if slices.Min(seen[:]) < 5 {
		t.Error("too few lists of a length", seen)
	}
}

// findOut returns a book in which facts are what they are in a truth.
func findOut(t *testing.T, b api.RecordBook, list []api.RecordFact, x found) api.RecordBook {
	t.Helper()
	for _, fact := range list {
		b = learnt(t, b, fact, only(x[fact]))
	}
	return b
}

// P9.7, P4: whatever the facts of Proof are found to be, one record is left; without one of them some finding leaves several.
func TestProofIsFoundOut(t *testing.T) {
	r := rand.New(rand.NewSource(104))
	without := 0
	for range 400 {
		b := openRandomBook(r, pick(r, []scale{small, great}), 300)
		kind, day := r.Intn(len(b.Kinds)), someDay(r, b)
		proof := proofOf(t, b, kind, day)
		several := make([]bool, len(proof))
		for x := range truths(b) {
			o := findOut(t, b, proof, x)
			record, _ := recordIn(b, x, kind, day)
			if l := recordsOf(t, o, kind, day); !slices.Equal(l, list(record)) {
				t.Fatal(b, kind, day, proof, x, l)
			}
			if l := proofOf(t, o, kind, day); len(l) > 0 {
				t.Fatal(o, kind, day, l)
			}
			for i := range proof {
				fewer := slices.Delete(slices.Clone(proof), i, i+1)
				several[i] = several[i] || len(recordsOf(t, findOut(t, b, fewer, x), kind, day)) > 1
			}
		}
		if slices.Contains(several, false) {
			t.Fatal(b, kind, day, proof, several)
		}
		without += len(proof)
	}
	if without < 100 {
		t.Error("too few facts", without)
	}
}
