package record_test

import (
	"fmt"

	"nock/api"
	"nock/record"
)

func ExampleRecords() {
	b, number, foul := record.Parse(exampleText)
	if foul != api.Fair {
		fmt.Println("foul", foul, "in line", number)
		return
	}
	for _, day := range []int{99, 150, 250} {
		records, _ := record.Records(b, 0, day)
		_, can, _ := record.Holders(b, 0, day)
		fmt.Println(day, records, can)
	}
	// Output:
	// 99 [-1] []
	// 150 [-1 670] [0]
	// 250 [-1 670 680] [0 1]
}

func ExampleProof() {
	b, number, foul := record.Parse(exampleText)
	if foul != api.Fair {
		fmt.Println("foul", foul, "in line", number)
		return
	}
	proof, _ := record.Proof(b, 0, 250)
	for _, fact := range proof {
		fmt.Println(fact.What == api.RecordJudges, fact.What == api.RecordPapers, fact.Index)
	}
	b, _ = record.Learn(b, proof[0], api.Span{Min: 3, Max: 9})
	records, _ := record.Records(b, 0, 250)
	proof, _ = record.Proof(b, 0, 250)
	fmt.Println(records, proof)
	// Output:
	// true false 1
	// false true 0
	// [680] []
}

func ExampleClass() {
	b, number, foul := record.Parse(exampleText)
	if foul != api.Fair {
		fmt.Println("foul", foul, "in line", number)
		return
	}
	has, _ := record.Class(b, 0, 250, "ben")
	least, most, _ := record.Short(b, 0, 250, "ben")
	handicap, _ := record.Handicap(b, 599)
	fmt.Println(has == api.No, least, most, handicap)
	// Output: true 1 2 2
}
