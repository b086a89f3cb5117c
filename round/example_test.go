package round_test

import (
	"fmt"

	"nock/api"
	"nock/round"
)

func ExampleRanks() {
	r, line, foul := round.Parse(exampleText)
	if foul != api.Fair {
		fmt.Println("foul", foul, "in line", line)
		return
	}
	ranks, _ := round.Ranks(r, 0)
	after, _ := round.After(r, 0, 3)
	fmt.Println(ranks, after)
	// Output: [3 4 2 0 1] [1 2 3 0 3]
}

func ExampleNeeds() {
	r, line, foul := round.Parse(exampleText)
	if foul != api.Fair {
		fmt.Println("foul", foul, "in line", line)
		return
	}
	for k := 1; k <= 4; k++ {
		points, found, _ := round.Needs(r, 0, k)
		fmt.Println(k, points, found)
	}
	// Output:
	// 1 20 true
	// 2 16 true
	// 3 16 true
	// 4 0 true
}

func ExampleShoot() {
	r, line, foul := round.Parse(exampleText)
	if foul != api.Fair {
		fmt.Println("foul", foul, "in line", line)
		return
	}
	for _, number := range []int{10, 10} {
		r, _ = round.Shoot(r, 0, number)
	}
	among, _ := round.Among(r, 0, 1)
	threats, _ := round.Threats(r, 0)
	fmt.Println(among == api.Yes, threats)
	// Output: true []
}
