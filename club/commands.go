package club

import (
	"slices"
	"strconv"

	"nock/api"
)

// element is something that a command may have: what prints it, what reads it, whether it is within its limits, and what takes it away.
type element struct {
	print func(c api.ClubCommand) string
	read  func(f *fields, c *api.ClubCommand)
	fits  func(c api.ClubCommand) bool
	clear func(c *api.ClubCommand)
}

// elementAt returns the element that stands at a place of a command.
func elementAt[T any](at func(c *api.ClubCommand) *T, print func(x T) string, read func(f *fields) T, fits func(x T) bool) element {
	return element{
		print: func(c api.ClubCommand) string { return print(*at(&c)) },
		read:  func(f *fields, c *api.ClubCommand) { *at(c) = read(f) },
		fits:  func(c api.ClubCommand) bool { return fits(*at(&c)) },
		clear: func(c *api.ClubCommand) { *at(c) = *new(T) },
	}
}

func nameOf(c *api.ClubCommand) *string { return &c.Name }

func numberA(c *api.ClubCommand) *int { return &c.A }

func numberB(c *api.ClubCommand) *int { return &c.B }

func numberC(c *api.ClubCommand) *int { return &c.C }

func listOf(c *api.ClubCommand) *[]int { return &c.List }

func moreOf(c *api.ClubCommand) *[]int { return &c.More }

func spanX(c *api.ClubCommand) *api.Span { return &c.X }

func spanY(c *api.ClubCommand) *api.Span { return &c.Y }

func nameElement() element {
	return elementAt(nameOf, func(name string) string { return name }, (*fields).next, isName)
}

func numberElement(at func(c *api.ClubCommand) *int) element {
	return elementAt(at, strconv.Itoa, (*fields).number, isNumber)
}

func listElement(at func(c *api.ClubCommand) *[]int) element {
	fits := func(list []int) bool {
		return !slices.ContainsFunc(list, func(n int) bool { return !isNumber(n) })
	}
	return elementAt(at, printList, (*fields).list, fits)
}

func spanElement(at func(c *api.ClubCommand) *api.Span) element {
	fits := func(x api.Span) bool { return isNumber(x.Min) && isNumber(x.Max) }
	return elementAt(at, printSpan, (*fields).span, fits)
}

// wordElement returns the number A for which a word stands; it is first for the first word.
func wordElement(first int, words ...string) element {
	print := func(n int) string { return words[n-first] }
	read := func(f *fields) int { return first + f.word(words...) }
	fits := func(n int) bool { return within(n, first, first+len(words)-1) }
	return elementAt(numberA, print, read, fits)
}

// commandKind is a kind of commands: its word, what finds whom or what the Name means (if it has one), what it has, in order, and what it does. Those kinds do nothing to a book that take commands back, or enter them again.
type commandKind struct {
	word string
	find func(b checkedBook, name string) int
	has  []element
	do   func(b *checkedBook, found int, c api.ClubCommand) api.Foul
}

func commandKinds() []commandKind {
	name, list, more := nameElement(), listElement(listOf), listElement(moreOf)
	a, b, c := numberElement(numberA), numberElement(numberB), numberElement(numberC)
	x, y := spanElement(spanX), spanElement(spanY)
	measured := wordElement(int(api.ArrowSpine), "spine", "length", "weight")
	place := wordElement(int(api.LineBehind), "behind", "on", "before")
	learnt := wordElement(int(api.RecordJudges), "judges", "length", "papers")
	return []commandKind{
		api.ClubShoot:    {word: "shoot", find: checkedBook.archer, has: []element{name, a}, do: (*checkedBook).shoot},
		api.ClubWithdraw: {word: "withdraw", find: checkedBook.archer, has: []element{name}, do: (*checkedBook).withdraw},
		api.ClubResult:   {word: "result", has: []element{a, b, c, list, more}, do: (*checkedBook).addResult},
		api.ClubMeasure:  {word: "measure", find: checkedBook.shaft, has: []element{name, measured, x}, do: (*checkedBook).measure},
		api.ClubLook:     {word: "look", has: []element{a, b, list}, do: (*checkedBook).lookAtArrow},
		api.ClubTell:     {word: "tell", has: []element{a, list}, do: (*checkedBook).tell},
		api.ClubHole:     {word: "hole", has: []element{a, x, y}, do: (*checkedBook).narrow},
		api.ClubGive:     {word: "give", has: []element{list}, do: (*checkedBook).give},
		api.ClubGo:       {word: "go", find: checkedBook.person, has: []element{name, place}, do: (*checkedBook).goTo},
		api.ClubDelay:    {word: "delay", has: []element{list}, do: (*checkedBook).delay},
		api.ClubLearn:    {word: "learn", has: []element{learnt, b, x}, do: (*checkedBook).learn},
		api.ClubGone:     {word: "gone", has: []element{a, b}, do: (*checkedBook).withdrawClaim},
		api.ClubBack:     {word: "back", has: []element{a}},
		api.ClubAgain:    {word: "again", has: []element{a}},
	}
}

// checkCounts looks at how many elements the lists of a command have.
func checkCounts(c api.ClubCommand) api.Foul {
	for _, list := range [][]int{c.List, c.More} {
		if len(list) > api.MaxClubList || c.Kind == api.ClubResult && len(list)%2 != 0 {
			return api.BadCount
		}
	}
	return api.Fair
}

// isEmpty says whether nothing is left of a command but its kind.
func isEmpty(c api.ClubCommand) bool {
	return c.Name == "" && c.A == 0 && c.B == 0 && c.C == 0 && len(c.List) == 0 && len(c.More) == 0 && c.X == api.Span{} && c.Y == api.Span{}
}

// check looks at a command of this kind.
func (k commandKind) check(c api.ClubCommand) api.Foul {
	if k.find != nil && !isName(c.Name) {
		return api.BadName
	}
	if f := checkCounts(c); f != api.Fair {
		return f
	}
	for _, has := range k.has {
		if !has.fits(c) {
			return api.OffLimits
		}
		has.clear(&c)
	}
	if !isEmpty(c) {
		return api.OffLimits
	}
	return api.Fair
}

// CheckCommand returns the foul of a command.
func CheckCommand(c api.ClubCommand) api.Foul {
	kinds := commandKinds()
	if !within(int(c.Kind), 0, len(kinds)-1) {
		return api.OffLimits
	}
	return kinds[c.Kind].check(c)
}
