package face_test

import (
	"fmt"

	"nock/api"
	"nock/face"
)

func ExampleTotals() {
	end, line, foul := face.Parse(endText)
	if foul != api.Fair {
		fmt.Println("foul", foul, "in line", line)
		return
	}
	totals, _ := face.Totals(end)
	measure, _ := face.Measure(end)
	fmt.Println(totals, measure)
	// Output: [{19 1} {19 0} {18 1} {18 0} {17 0}] [0 1]
}

func ExampleAsk() {
	end, line, foul := face.Parse(endText)
	if foul != api.Fair {
		fmt.Println("foul", foul, "in line", line)
		return
	}
	arrow, left, _ := face.Ask(end)
	fmt.Println("measure", arrow, "first: at most", left, "totals are left")
	// Output: measure 0 first: at most 2 totals are left
}
