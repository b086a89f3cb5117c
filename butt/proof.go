package butt

import (
	"math/bits"

	"nock/api"
)

// set is some archers of a ground: the bit of each of them is set. The last archer has the least bit, so that of two sets of as many archers the greater number has the lesser list.
type set uint

// all returns the set of all archers.
func (g checkedGround) all() set {
	return 1<<len(g.Archers) - 1
}

func (g checkedGround) bit(archer int) set {
	return 1 << (len(g.Archers) - 1 - archer)
}

func (g checkedGround) setOf(archers []int) set {
	var some set
	for _, archer := range archers {
		some |= g.bit(archer)
	}
	return some
}

// listOf returns the archers of a set, ascending.
func (g checkedGround) listOf(some set) []int {
	var archers []int
	for archer := range g.Archers {
		if some&g.bit(archer) != 0 {
			archers = append(archers, archer)
		}
	}
	return archers
}

func (s set) count() int {
	return bits.OnesCount(uint(s))
}

// lack returns the lack of some archers.
func (g checkedGround) lack(some set) int {
	seats := 0
stands:
	for stand, s := range g.Stands {
		for _, archer := range g.listOf(some) {
			if g.canUse(archer, stand) {
				seats += s.Seats
				continue stands
			}
		}
	}
	return max(0, some.count()-seats)
}

// mostLack returns the greatest lack of all sets.
func (g checkedGround) mostLack() int {
	most := 0
	for some := range g.all() + 1 {
		most = max(most, g.lack(some))
	}
	return most
}

// proof returns the set whose lack is the greatest: of several one with the fewest archers, and of these the one with the least list.
func (g checkedGround) proof() set {
	most, all := g.mostLack(), g.all()
	var found set
search:
	for many := range len(g.Archers) + 1 {
		for n := range all + 1 {
			some := all - n
			if some.count() == many && g.lack(some) == most {
				found = some
				break search
			}
		}
	}
	return found
}

// Lack returns the lack of some archers.
func Lack(g api.ButtGround, archers []int) (int, api.Foul) {
	c, f := lookAtGround(g)
	if f != api.Fair {
		return 0, f
	}
	if f := c.checkList(archers); f != api.Fair {
		return 0, f
	}
	return c.lack(c.setOf(archers)), api.Fair
}

// Proof returns the archers whose lack is the greatest: of several lists the one with the fewest, and of these the least one.
func Proof(g api.ButtGround) ([]int, api.Foul) {
	c, f := lookAtGround(g)
	if f != api.Fair {
		return nil, f
	}
	return c.listOf(c.proof()), api.Fair
}

// Proves returns whether just as many archers have no stand in a seating as some archers lack.
func Proves(g api.ButtGround, seats, archers []int) (bool, api.Foul) {
	c, f := lookAtGround(g)
	if f != api.Fair {
		return false, f
	}
	if len(seats) != len(c.Archers) {
		return false, api.BadCount
	}
	if f := c.checkList(archers); f != api.Fair {
		return false, f
	}
	return c.isSeating(seats) && countWithout(seats) == c.lack(c.setOf(archers)), api.Fair
}
