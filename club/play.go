package club

import (
	"nock/api"
	"nock/round"
)

// history is what was entered and is in force, and what was taken back. Of both that is the last one which is the next to be moved.
type history[T any] struct {
	force []T
	back  []T
}

// move moves the last elements of a list to another one, one after the other.
func move[T any](many int, from, to *[]T) api.Foul {
	switch {
	case many < 1:
		return api.OffLimits
	case many > len(*from):
		return api.NotEnough
	}
	for range many {
		last := len(*from) - 1
		*to = append(*to, (*from)[last])
		*from = (*from)[:last]
	}
	return api.Fair
}

// enter enters something, by which what was taken back is forgotten.
func (h *history[T]) enter(x T) {
	h.force = append(h.force, x)
	h.back = nil
}

func (h *history[T]) takeBack(many int) api.Foul {
	return move(many, &h.force, &h.back)
}

func (h *history[T]) enterAgain(many int) api.Foul {
	return move(many, &h.back, &h.force)
}

// moment is the index of a command that was entered, and the book after it.
type moment struct {
	index int
	book  checkedBook
}

// director plays commands, beginning with a book.
type director struct {
	first checkedBook
	history[moment]
}

// begin returns a director with a copy of a book.
func begin(given api.ClubBook) (*director, api.Foul) {
	b, f := look(given)
	if f != api.Fair {
		return nil, f
	}
	return &director{first: b.copied()}, api.Fair
}

// now returns the book after all commands in force.
func (d *director) now() checkedBook {
	if len(d.force) == 0 {
		return d.first
	}
	return d.force[len(d.force)-1].book
}

// play plays the command with an index.
func (d *director) play(index int, c api.ClubCommand) api.Foul {
	if f := CheckCommand(c); f != api.Fair {
		return f
	}
	switch c.Kind {
	case api.ClubBack:
		return d.takeBack(c.A)
	case api.ClubAgain:
		return d.enterAgain(c.A)
	}
	b, f := d.now().do(c)
	if f != api.Fair {
		return f
	}
	d.enter(moment{index, b})
	return api.Fair
}

// beginList returns a director who can play some commands.
func beginList(b api.ClubBook, l []api.ClubCommand) (*director, api.Foul) {
	d, f := begin(b)
	if f != api.Fair {
		return nil, f
	}
	if len(l) > api.MaxClubLines {
		return nil, api.BadCount
	}
	return d, api.Fair
}

// Play returns the fouls of commands that are played one after the other, which of them are in force in the end, and the book then.
func Play(b api.ClubBook, l []api.ClubCommand) (fouls []api.Foul, force []int, now api.ClubBook, f api.Foul) {
	d, f := beginList(b, l)
	if f != api.Fair {
		return nil, nil, api.ClubBook{}, f
	}
	for i, c := range l {
		fouls = append(fouls, d.play(i, c))
	}
	for _, m := range d.force {
		force = append(force, m.index)
	}
	return fouls, force, d.now().ClubBook, api.Fair
}

// Course returns the ranks of a class before the first command, and after each one.
func Course(b api.ClubBook, l []api.ClubCommand, class int) ([][]int, api.Foul) {
	d, f := beginList(b, l)
	if f != api.Fair {
		return nil, f
	}
	ranks, f := round.Ranks(d.first.Round, class)
	if f != api.Fair {
		return nil, f
	}
	all := [][]int{ranks}
	for i, c := range l {
		d.play(i, c)
		ranks, _ := round.Ranks(d.now().Round, class)
		all = append(all, ranks)
	}
	return all, api.Fair
}
