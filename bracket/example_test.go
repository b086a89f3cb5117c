package bracket_test

import (
	"fmt"

	"nock/api"
	"nock/bracket"
)

func ExampleMedals() {
	b, line, foul := bracket.Parse(exampleText)
	if foul != api.Fair {
		fmt.Println("foul", foul, "in line", line)
		return
	}
	medals, _ := bracket.Medals(b)
	because, gold, _ := bracket.Because(b)
	fmt.Println(medals.Gold, medals.Silver, medals.Bronze)
	fmt.Println(gold, because)
	// Output:
	// 0 2 -1
	// 0 [0]
}

func ExampleOpen() {
	b, line, foul := bracket.Parse(exampleText)
	if foul != api.Fair {
		fmt.Println("foul", foul, "in line", line)
		return
	}
	open, _ := bracket.Open(b)
	for _, match := range open {
		one, two, _ := bracket.Sides(b, match)
		winners, _ := bracket.Winners(b, match)
		fmt.Println(match, one, two, winners)
	}
	// Output:
	// 4 [0] [4] [0]
	// 5 [1] [2] [2]
	// 7 [4] [1] [1 4]
}

func ExampleClash() {
	b, line, foul := bracket.Parse(exampleText)
	if foul != api.Fair {
		fmt.Println("foul", foul, "in line", line)
		return
	}
	// Somebody tells that 4 won against 0, who was in the final.
	b.Results = append(b.Results, api.BracketResult{Match: 4, One: 0, Two: 4, Sets: []api.BracketPair{{One: 20, Two: 25}, {One: 22, Two: 24}, {One: 21, Two: 26}}})
	fits, _ := bracket.Fits(b)
	clash, _ := bracket.Clash(b)
	trust, _ := bracket.Trust(b)
	fmt.Println(fits, clash, trust)
	// Output: false [0 2] [0 1]
}
