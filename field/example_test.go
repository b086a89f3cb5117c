package field_test

import (
	"fmt"

	"nock/api"
	"nock/field"
)

func ExampleDistance() {
	c, number, foul := field.Parse(exampleText)
	if foul != api.Fair {
		fmt.Println("foul", foul, "in line", number)
		return
	}
	for i, p := range c.Pegs {
		distance, _ := field.Distance(c, i)
		allowed, _ := field.Allowed(c, i)
		fmt.Println(p.Name, distance, allowed == api.Yes, allowed == api.No)
	}
	// Output:
	// a {16 20} false false
	// b {12 12} true false
	// c {24 25} false true
}

func ExampleTroubles() {
	c, number, foul := field.Parse(exampleText)
	if foul != api.Fair {
		fmt.Println("foul", foul, "in line", number)
		return
	}
	// The second group starts one minute later.
	c, _ = field.Delayed(c, []int{0, 1})
	troubles, _ := field.Troubles(c)
	for _, x := range troubles {
		fmt.Println(c.Groups[x.One].Name, c.Groups[x.Two].Name, c.Pegs[x.Peg].Name, x.Meet == api.Yes, x.From)
	}
	delays, found, _ := field.Delays(c)
	fmt.Println(delays, found)
	// Output:
	// red blue c false 13
	// [0 0] true
}

func ExampleRescue() {
	c, number, foul := field.Parse(exampleText)
	if foul != api.Fair {
		fmt.Println("foul", foul, "in line", number)
		return
	}
	for _, minute := range []int{3, 5, 30} {
		points, long, found, _ := field.Rescue(c, 2, minute)
		fmt.Println(points, long, found)
	}
	marshals, _ := field.Marshals(c)
	fmt.Println(marshals)
	// Output:
	// [] 0 false
	// [2 3 0] 110 true
	// [2 1 0] 70 true
	// [0 2]
}
