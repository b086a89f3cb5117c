package club_test

import (
	"fmt"

	"nock/api"
	"nock/club"
)

func ExampleDirect() {
	out, now, foul := club.Direct(exampleBook(), "shoot ann 9\nshoot ann 12\nask seat 3 0 0\nback 1\nagain 1\n")
	fmt.Print(out)
	fmt.Println(now.Round.Archers[0].Arrows, foul == api.Fair)
	// Output:
	// done
	// foul 1
	// reply seat 3 0 0 yes 0/1/-1/0/-1 63359
	// done
	// done
	// [10 9 11 10 8 9] true
}

func ExamplePlay() {
	all, number, foul := club.ReadLog("shoot ann 9\nshoot ann 12\nback 1\nshoot ben 10\nagain 1\ngo ann on\n")
	if foul != api.Fair {
		fmt.Println("foul", foul, "in line", number)
		return
	}
	fouls, force, _, _ := club.Play(exampleBook(), all)
	fmt.Println(fouls, force)
	// Output: [0 1 0 0 9 10] [3]
}

func ExampleRead() {
	text, _ := club.Write(exampleBook())
	b, number, foul := club.Read(text)
	if foul != api.Fair {
		fmt.Println("foul", foul, "in line", number)
		return
	}
	yes, list, _ := club.Ask(b, api.ClubAsk{Kind: api.ClubOut, A: 2, B: 30, C: 70})
	proved, _ := club.Proves(b, api.ClubAsk{Kind: api.ClubOut, A: 2, B: 30, C: 110}, true, []int{2, 3, 0})
	fmt.Println(yes, list, proved)
	// Output: true [2 1 0] true
}
