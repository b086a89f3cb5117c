package card_test

import (
	"fmt"

	"nock/api"
	"nock/card"
)

func ExampleOfficial() {
	sheet, line, foul := card.Parse(cardText)
	if foul != api.Fair {
		fmt.Println("foul", foul, "in line", line)
		return
	}
	all, _ := card.All(sheet)
	official, _ := card.Official(sheet)
	doubts, _ := card.Doubts(sheet)
	fmt.Println(all, official, doubts)
	// Output: [{49 0} {50 0} {51 0} {52 0}] {49 0} [{0 1} {1 0} {1 1}]
}

func ExampleDecide() {
	sheet, line, foul := card.Parse(cardText)
	if foul != api.Fair {
		fmt.Println("foul", foul, "in line", line)
		return
	}
	for end := range sheet.Ends {
		arrows, _ := card.Decide(sheet, end)
		fmt.Println(end, arrows)
	}
	// Output:
	// 0 [1]
	// 1 [0 1]
}

func ExampleChanges() {
	changes, _ := card.Changes([]int{10, 9, 9}, []int{11, 9, 8})
	fmt.Println(changes)
	// Output: [{10 11} {9 8}]
}
