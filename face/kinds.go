package face

import (
	"slices"
	"strconv"

	"nock/api"
)

// kind is what arrows of one kind have of their own: the word of their lines, the fouls of their boxes and of In, and the fields that follow Shaft.
type kind struct {
	word  string
	check func(x api.FaceArrow, arrow int) api.Foul
	print func(x api.FaceArrow) []string
	read  func(f *fields) api.FaceArrow
}

// kinds returns the kinds of arrows, by api.FaceKind.
func kinds() []kind {
	return []kind{
		api.FaceHole: {word: "hole", check: checkHole, print: printHole, read: readHole},
		api.FaceIn:   {word: "in", check: checkIn, print: printIn, read: readIn},
		api.FaceLost: {word: "lost", check: checkLost, print: printLost, read: readLost},
	}
}

// kindOf returns the kind of the arrows whose lines begin with a word.
func kindOf(word string) (k api.FaceKind, found bool) {
	i := slices.IndexFunc(kinds(), func(k kind) bool { return k.word == word })
	return api.FaceKind(max(i, 0)), i >= 0
}

func checkHole(x api.FaceArrow, arrow int) api.Foul {
	if !within(len(x.Boxes), 1, api.MaxFaceBoxes) {
		return api.BadCount
	}
	for _, b := range x.Boxes {
		if !isBoxSpan(b.X) || !isBoxSpan(b.Y) {
			return api.OffLimits
		}
	}
	return checkNotIn(x)
}

// isBoxSpan says whether a box may have these coordinates.
func isBoxSpan(x api.Span) bool {
	return isSpan(x, -api.MaxFacePlace, api.MaxFacePlace) && x.Max-x.Min < api.MaxFaceBox
}

func checkNotIn(x api.FaceArrow) api.Foul {
	if x.In != 0 {
		return api.OffLimits
	}
	return api.Fair
}

func checkIn(x api.FaceArrow, arrow int) api.Foul {
	if len(x.Boxes) > 0 {
		return api.BadCount
	}
	if !within(x.In, 0, arrow-1) {
		return api.Unknown
	}
	return api.Fair
}

func checkLost(x api.FaceArrow, arrow int) api.Foul {
	if len(x.Boxes) > 0 {
		return api.BadCount
	}
	return checkNotIn(x)
}

func printHole(x api.FaceArrow) []string {
	var list []string
	for _, b := range x.Boxes {
		list = append(list, printSpan(b.X), printSpan(b.Y))
	}
	return list
}

func printIn(x api.FaceArrow) []string {
	return []string{strconv.Itoa(x.In)}
}

func printLost(x api.FaceArrow) []string {
	return nil
}

func readHole(f *fields) api.FaceArrow {
	boxes := []api.FaceBox{f.box()}
	for len(f.left) > 0 {
		boxes = append(boxes, f.box())
	}
	return api.FaceArrow{Boxes: boxes}
}

func readIn(f *fields) api.FaceArrow {
	return api.FaceArrow{In: f.number()}
}

func readLost(f *fields) api.FaceArrow {
	return api.FaceArrow{}
}
