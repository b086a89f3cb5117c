package arrow_test

import (
	"fmt"

	"nock/api"
	"nock/arrow"
)

func ExampleFill() {
	stock, line, foul := arrow.ParseStock(stockText)
	if foul != api.Fair {
		fmt.Println("foul", foul, "in line", line)
		return
	}
	sets, left, _ := arrow.Fill(stock)
	fmt.Println(sets, left)
	// Output: [[0 1 2] [3 4 5]] [6]
}

func ExampleMarkAt() {
	card, line, foul := arrow.ParseCard(cardText)
	if foul != api.Fair {
		fmt.Println("foul", foul, "in line", line)
		return
	}
	span, _ := arrow.MarkAt(card, 25)
	mark, off, _ := arrow.Best(card, 25)
	fmt.Println(span.Min, span.Max, mark, off)
	// Output: 73 80 76 4
}
