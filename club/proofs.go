package club

import (
	"slices"

	"nock/api"
	"nock/arrow"
	"nock/bracket"
	"nock/butt"
	"nock/field"
	"nock/line"
)

// seats says whether a list is a seating of so many archers at least as are asked for.
func (b checkedBook) seats(q api.ClubAsk, list []int) bool {
	if len(list) != len(b.Ground.Archers) {
		return false
	}
	seated := 0
	taken := make([]int, len(b.Ground.Stands))
	for archer, stand := range list {
		if stand == nobody {
			continue
		}
		can, _ := butt.Can(b.Ground, archer)
		if !slices.Contains(can, stand) || taken[stand] == b.Ground.Stands[stand].Seats {
			return false
		}
		taken[stand]++
		seated++
	}
	return seated >= q.A
}

// lacks says whether the archers of a list lack so many seats that fewer archers than are asked for can have one.
func (b checkedBook) lacks(q api.ClubAsk, list []int) bool {
	lack, f := butt.Lack(b.Ground, list)
	return f == api.Fair && len(b.Ground.Archers)-lack < q.A
}

// bitsOf returns the bits of posts that missed a signal.
func bitsOf(posts []int) int {
	all := 0
	for _, p := range posts {
		all |= 1 << p
	}
	return all
}

// postsOf returns the posts of bits, unless there is a bit of no post.
func postsOf(all int) (posts []int, found bool) {
	for p := range api.MaxLinePosts {
		if all&(1<<p) != 0 {
			posts = append(posts, p)
		}
	}
	return posts, bitsOf(posts) == all
}

// runOf returns the moves of a list, unless it is not one of moves.
func runOf(list []int) (run []api.LineMove, found bool) {
	if len(list)%4 != 0 {
		return nil, false
	}
	for x := range slices.Chunk(list, 4) {
		missed, found := postsOf(x[1])
		if !found {
			return nil, false
		}
		run = append(run, api.LineMove{Kind: api.LineKind(x[0]), Missed: missed, Person: x[2], To: api.LinePlace(x[3])})
	}
	return run, true
}

// endangers says whether a list is a run that leads to a dangerous state.
func (b checkedBook) endangers(q api.ClubAsk, list []int) bool {
	run, found := runOf(list)
	if !found {
		return false
	}
	s, _, f := line.Run(b.Plan, run)
	if f != api.Fair {
		return false
	}
	_, _, is, _ := line.Danger(b.Plan, s)
	return is
}

// decides says whether by the results of a list alone the seed that is asked for has the gold.
func (b checkedBook) decides(q api.ClubAsk, list []int) bool {
	some := b.Bracket
	some.Results = nil
	for i, n := range list {
		if !within(n, 0, len(b.Bracket.Results)-1) || i > 0 && n <= list[i-1] {
			return false
		}
		some.Results = append(some.Results, b.Bracket.Results[n])
	}
	medals, f := bracket.Medals(some)
	return f == api.Fair && medals.Gold != nobody && medals.Gold == q.A
}

// shares says whether a list is so many sets of shafts at least as are asked for.
func (b checkedBook) shares(q api.ClubAsk, list []int) bool {
	many := b.Stock.Rule.Many
	if len(list)%many != 0 || len(list)/many < q.A {
		return false
	}
	taken := make(map[int]bool)
	for set := range slices.Chunk(list, many) {
		match, f := arrow.Match(b.Stock, set)
		if f != api.Fair || match != api.Yes {
			return false
		}
		for _, shaft := range set {
			if taken[shaft] {
				return false
			}
			taken[shaft] = true
		}
	}
	return true
}

// openPaths returns the paths that no lane crosses of a peg where a group can be in a minute.
func (b checkedBook) openPaths(minute int) []api.FieldPath {
	var crossed []int
	shot, _ := field.Shot(b.Course, minute)
	for peg, is := range shot {
		if is != api.No {
			crossed = append(crossed, b.Course.Pegs[peg].Lane...)
		}
	}
	var open []api.FieldPath
	for i, p := range b.Course.Paths {
		if !slices.Contains(crossed, i) {
			open = append(open, p)
		}
	}
	return open
}

// leadsOut says whether a list is a way out from the point that is asked for, and no longer than may be.
func (b checkedBook) leadsOut(q api.ClubAsk, list []int) bool {
	if len(list) == 0 || list[0] != q.A || list[len(list)-1] != 0 {
		return false
	}
	open, long := b.openPaths(q.B), 0
	for i, to := range list[1:] {
		from := list[i]
		joins := func(p api.FieldPath) bool {
			return p.One == from && p.Two == to || p.One == to && p.Two == from
		}
		path := slices.IndexFunc(open, joins)
		if path == nobody {
			return false
		}
		long += open[path].Long
	}
	return long <= q.C
}

// wears says whether a list is a plan with no wear above what is asked for.
func (b checkedBook) wears(q api.ClubAsk, list []int) bool {
	if len(list)%2 != 0 {
		return false
	}
	var plan []api.ButtTurn
	for x := range slices.Chunk(list, 2) {
		plan = append(plan, api.ButtTurn{Layer: x[0], Turn: x[1]})
	}
	worst, f := butt.Worst(b.Boss, plan)
	return f == api.Fair && worst.Max <= q.A
}

// proves says whether a list proves an answer. The question must have no foul.
func (b checkedBook) proves(q api.ClubAsk, x answer) bool {
	k := questionKinds()[q.Kind]
	proves := k.provesNo
	if x.yes {
		proves = k.provesYes
	}
	return proves != nil && proves(b, q, x.list)
}

// Proves returns whether an answer to a question is proved by a list.
func Proves(b api.ClubBook, q api.ClubAsk, yes bool, list []int) (bool, api.Foul) {
	checked, f := look(b)
	if f != api.Fair {
		return false, f
	}
	if _, f := checked.ask(q); f != api.Fair {
		return false, f
	}
	return checked.proves(q, answer{yes, list}), api.Fair
}
