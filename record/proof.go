package record

import (
	"math/bits"
	"sync"

	"nock/api"
)

// set is some facts in doubt: the bit of the index of each of them is set.
type set uint

func (s set) has(i int) bool {
	return s>>i&1 == 1
}

func (s set) count() int {
	return bits.OnesCount(uint(s))
}

// findings says what the record of a kind is by what facts are found to be. All claims of one kind need the same of a fact: so it matters only whether a fact is found to be right.
type findings struct {
	doubts  []doubt
	records []int // by the set of the facts that are right
}

func findingsOf(claims []claim) findings {
	d := doubtsOf(claims)
	x := findings{doubts: d, records: make([]int, 1<<len(d))}
	for t := range truths(claims) {
		var right set
		for i := range d {
			if t.meets(d[i].needs[0]) {
				right |= 1 << i
			}
		}
		x.records[right] = recordIn(t, claims)
	}
	return x
}

// listOf returns the facts of a set, in order.
func (x findings) listOf(some set) []api.RecordFact {
	var list []api.RecordFact
	for i, d := range x.doubts {
		if some.has(i) {
			list = append(list, d.fact)
		}
	}
	return list
}

// proofOf returns the least list of so many facts after which one record is left, whatever they are found to be.
func (x findings) proofOf(many int) (best []api.RecordFact, found bool) {
sets:
	for some := range set(1) << len(x.doubts) {
		if some.count() != many {
			continue
		}
		for right, record := range x.records {
			// What is found to be the same leaves the same record, whatever the other facts are.
			if record != x.records[set(right)&some] {
				continue sets
			}
		}
		list := x.listOf(some)
		if !found || compareLists(list, best, compareFacts) < 0 {
			best, found = list, true
		}
	}
	return best, found
}

// proof returns the fewest facts after which one record is left, the least list of several. Each number of facts is looked at apart from the others; of two lists one is always to be taken, so that the order in which they are found decides nothing.
func (x findings) proof() []api.RecordFact {
	best := x.listOf(set(1)<<len(x.doubts) - 1)
	var lock sync.Mutex
	var numbers sync.WaitGroup
	for many := range len(x.doubts) {
		numbers.Go(func() {
			list, found := x.proofOf(many)
			lock.Lock()
			defer lock.Unlock()
			if found && compareLists(list, best, compareFacts) < 0 {
				best = list
			}
		})
	}
	numbers.Wait()
	return best
}

// Proof returns the fewest facts after which one record of a kind on a day is left, whatever they are found to be; the least list of several.
func Proof(b api.RecordBook, kind, day int) ([]api.RecordFact, api.Foul) {
	claims, f := claimsOf(b, kind, day)
	if f != api.Fair {
		return nil, f
	}
	return findingsOf(claims).proof(), api.Fair
}
