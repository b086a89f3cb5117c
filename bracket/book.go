package bracket

import (
	"slices"

	"nock/api"
)

// book is a bracket as it was given: it may have fouls.
type book struct{ api.BracketBook }

// check is a number that has limits, and the foul if it is not within them. If it is a number of elements, each of them is looked at after it.
type check struct {
	number      func(b book) int
	least, most int
	outside     api.Foul
	element     func(b book, i int) api.Foul
}

// checks returns what is checked of a bracket, in this order.
func checks() []check {
	return []check{
		{number: book.mostSets, least: 1, most: api.MaxBracketSets, outside: api.OffLimits},
		{number: book.countSeeds, least: 2, most: api.MaxBracketSeeds, outside: api.BadCount, element: book.checkSeed},
		{number: book.countResults, least: 0, most: api.MaxBracketResults, outside: api.BadCount, element: book.checkResult},
	}
}

func (b book) mostSets() int {
	return b.Sets
}

func (b book) countSeeds() int {
	return len(b.Seeds)
}

func (b book) countResults() int {
	return len(b.Results)
}

func (b book) check() api.Foul {
	for _, c := range checks() {
		many := c.number(b)
		if !within(many, c.least, c.most) {
			return c.outside
		}
		if c.element == nil {
			continue
		}
		for i := range many {
			if f := c.element(b, i); f != api.Fair {
				return f
			}
		}
	}
	return api.Fair
}

func (b book) checkSeed(i int) api.Foul {
	if !isName(b.Seeds[i]) {
		return api.BadName
	}
	if slices.Contains(b.Seeds[:i], b.Seeds[i]) {
		return api.Twice
	}
	return api.Fair
}

// isName says whether a text is a name.
func isName(text string) bool {
	if !within(len(text), 1, api.MaxName) {
		return false
	}
	for i, c := range []byte(text) {
		letter, digit := 'a' <= c && c <= 'z', '0' <= c && c <= '9'
		if !letter && (i == 0 || !digit) {
			return false
		}
	}
	return true
}

// isSeed says whether a number is the index of a seed.
func (b book) isSeed(seed int) bool {
	return within(seed, 0, len(b.Seeds)-1)
}

// checkResult is only called for a bracket whose seeds have no foul.
func (b book) checkResult(i int) api.Foul {
	r, t := b.Results[i], treeOf(len(b.Seeds))
	if !t.isShot(r.Match) || !b.isSeed(r.One) || !b.isSeed(r.Two) {
		return api.Unknown
	}
	if !t.canHave(r.Match, sides{r.One, r.Two}) {
		return api.Against
	}
	_, _, winner, f := Score(b.Sets, r.Sets, r.Offs)
	if f == api.Fair && winner == neither {
		return api.NotEnough
	}
	return f
}

// copied returns a bracket that shares no memory with this one.
func (b book) copied() api.BracketBook {
	o := api.BracketBook{Sets: b.Sets, Seeds: slices.Clone(b.Seeds), Results: slices.Clone(b.Results)}
	for i, r := range o.Results {
		o.Results[i].Sets, o.Results[i].Offs = slices.Clone(r.Sets), slices.Clone(r.Offs)
	}
	return o
}

// checkedBook is a bracket without fouls, with its tree, and all truths.
type checkedBook struct {
	book
	tree
	views []view
}

// look checks a bracket, and looks at its truths.
func look(given api.BracketBook) (checkedBook, api.Foul) {
	b := book{given}
	if f := b.check(); f != api.Fair {
		return checkedBook{}, f
	}
	t := treeOf(len(b.Seeds))
	return checkedBook{b, t, b.viewTruths(t)}, api.Fair
}

// need is what an argument beside a bracket must be.
type need func(c checkedBook) api.Foul

// ask checks a bracket, and then what is needed, one after the other; at last its results must fit.
func ask(b api.BracketBook, needs ...need) (checkedBook, api.Foul) {
	c, f := look(b)
	if f != api.Fair {
		return checkedBook{}, f
	}
	for _, needed := range needs {
		if f := needed(c); f != api.Fair {
			return checkedBook{}, f
		}
	}
	if !c.fit(c.all()) {
		return checkedBook{}, api.Against
	}
	return c, api.Fair
}

func needMatch(match int) need {
	return func(c checkedBook) api.Foul {
		if !c.isShot(match) {
			return api.Unknown
		}
		return api.Fair
	}
}

func needSeed(seed int) need {
	return func(c checkedBook) api.Foul {
		if !c.isSeed(seed) {
			return api.Unknown
		}
		return api.Fair
	}
}

func needRound(round int) need {
	return func(c checkedBook) api.Foul {
		if !within(round, 0, c.rounds-1) {
			return api.OffLimits
		}
		return api.Fair
	}
}

// CheckBook returns the foul of a bracket.
func CheckBook(b api.BracketBook) api.Foul {
	return book{b}.check()
}

// Tell returns the bracket with one more result.
func Tell(b api.BracketBook, r api.BracketResult) (api.BracketBook, api.Foul) {
	if f := CheckBook(b); f != api.Fair {
		return api.BracketBook{}, f
	}
	b.Results = append(slices.Clone(b.Results), r)
	c, f := ask(b)
	if f != api.Fair {
		return api.BracketBook{}, f
	}
	return c.copied(), api.Fair
}
