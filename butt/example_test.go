package butt_test

import (
	"fmt"

	"nock/api"
	"nock/butt"
)

func ExampleBest() {
	b, _, number, foul := butt.Parse(exampleText)
	if foul != api.Fair {
		fmt.Println("foul", foul, "in line", number)
		return
	}
	plan, wear, _ := butt.Best(b)
	fmt.Println(plan, wear)
	swaps, found, _ := butt.Swaps(b)
	fmt.Println(swaps, found)
	// Output:
	// [{0 1} {1 2}] 12
	// 0 true
}

func ExampleReplace() {
	b, _, number, foul := butt.Parse(exampleText)
	if foul != api.Fair {
		fmt.Println("foul", foul, "in line", number)
		return
	}
	for _, turn := range []int{1, 2} {
		plan := []api.ButtTurn{{Layer: 0, Turn: turn}, {Layer: 0, Turn: 2}}
		worst, _ := butt.Worst(b, plan)
		holds, _ := butt.Holds(b, plan)
		n, layer, found, _ := butt.Replace(b, plan)
		fmt.Println(worst, holds == api.Yes, n, layer, found)
	}
	// Output:
	// {17 18} true 0 0 false
	// {23 23} false 2 0 true
}

func ExampleSeat() {
	_, g, number, foul := butt.Parse(exampleText)
	if foul != api.Fair {
		fmt.Println("foul", foul, "in line", number)
		return
	}
	seats, many, _ := butt.Seat(g)
	proof, _ := butt.Proof(g)
	lack, _ := butt.Lack(g, proof)
	is, _ := butt.Proves(g, seats, proof)
	fmt.Println(seats, many, proof, lack, is)
	// Output:
	// [0 1 -1 0 -1] 3 [0 1 2 3 4] 2 true
}
