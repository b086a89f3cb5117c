package butt

import (
	"slices"

	"nock/api"
)

// noStand is what a seating gives an archer who has no stand.
const noStand = -1

// seats returns how many seats each stand has, by its name.
func (g checkedGround) seats() map[string]int {
	seats := make(map[string]int)
	for _, s := range g.Stands {
		seats[s.Name] = s.Seats
	}
	return seats
}

// seat returns the seating with the most archers at stands if some seats are free, and how many have one. The least seating is tried first, so that a later one is better only if more archers have a stand.
func (g checkedGround) seat(free map[string]int) (best []int, many int) {
	many = -1
	given := make([]int, len(g.Archers))
	var give func(archer, seated int)
	give = func(archer, seated int) {
		if left := len(g.Archers) - archer; seated+left <= many {
			return
		}
		if archer == len(g.Archers) {
			best, many = slices.Clone(given), seated
			return
		}
		for stand, s := range g.Stands {
			if free[s.Name] == 0 || !g.canUse(archer, stand) {
				continue
			}
			free[s.Name]--
			given[archer] = stand
			give(archer+1, seated+1)
			free[s.Name]++
		}
		given[archer] = noStand
		give(archer+1, seated)
	}
	give(0, 0)
	return best, many
}

// isSeating says whether stands that are given to all archers are a seating.
func (g checkedGround) isSeating(given []int) bool {
	free := g.seats()
	for archer, stand := range given {
		if stand == noStand {
			continue
		}
		if !within(stand, 0, len(g.Stands)-1) || !g.canUse(archer, stand) {
			return false
		}
		name := g.Stands[stand].Name
		if free[name] == 0 {
			return false
		}
		free[name]--
	}
	return true
}

// countWithout returns how many archers have no stand.
func countWithout(given []int) int {
	many := 0
	for _, stand := range given {
		if stand == noStand {
			many++
		}
	}
	return many
}

// Seat returns the seating with the most archers at stands, the least one of several, and how many have one.
func Seat(g api.ButtGround) (seats []int, many int, f api.Foul) {
	c, f := lookAtGround(g)
	if f != api.Fair {
		return nil, 0, f
	}
	seats, many = c.seat(c.seats())
	return seats, many, api.Fair
}

// Without returns how many archers have a stand at most if one of the stands is not there.
func Without(g api.ButtGround, stand int) (int, api.Foul) {
	c, f := lookAtGround(g)
	if f != api.Fair {
		return 0, f
	}
	if !within(stand, 0, len(c.Stands)-1) {
		return 0, api.Unknown
	}
	free := c.seats()
	delete(free, c.Stands[stand].Name)
	_, many := c.seat(free)
	return many, api.Fair
}
