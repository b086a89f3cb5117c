package line_test

import (
	"fmt"

	"nock/api"
	"nock/line"
)

func ExampleRisk() {
	p, _, number, foul := line.Parse(exampleText)
	if foul != api.Fair {
		fmt.Println("foul", foul, "in line", number)
		return
	}
	moves, found, _ := line.Risk(p)
	s, _, _ := line.Run(p, moves)
	before, shooter, _, _ := line.Danger(p, s)
	fmt.Println(found, len(moves), "moves: the posts", moves[2].Missed, "miss the stop")
	fmt.Println(p.People[before].Name, "is before the line while", p.People[shooter].Name, "can shoot")
	// Output:
	// true 5 moves: the posts [1] miss the stop
	// ann is before the line while bob can shoot
}

func ExampleRepair() {
	p, _, number, foul := line.Parse(exampleText)
	if foul != api.Fair {
		fmt.Println("foul", foul, "in line", number)
		return
	}
	posts, found, _ := line.Repair(p)
	fmt.Println(posts, found)
	steps, found, _ := line.Guard(p, api.LineBack)
	fmt.Println(steps, found)
	// Output:
	// [1] true
	// [] false
}

func ExamplePoints() {
	_, w, number, foul := line.Parse(exampleText)
	if foul != api.Fair {
		fmt.Println("foul", foul, "in line", number)
		return
	}
	times, _ := line.Times(w, 0)
	early, canBeEarly, _ := line.Early(w, 0)
	late, canBeLate, _ := line.Late(w, 0)
	points, _ := line.Points(w, 0)
	extra, found, _ := line.Extra(w, 0)
	fmt.Println(times)
	fmt.Println(early, canBeEarly, late, canBeLate)
	fmt.Println(points, extra, found)
	// Output:
	// [{5 12} {20 20} {20 30} {45 60}]
	// [] [0] [] [3]
	// [17 27] 10 true
}
