package club_test

import (
	"math"
	"math/rand"
	"slices"
	"testing"

	"nock/api"
	"nock/club"
	"nock/round"
)

const (
	ok        = api.Fair
	offLimits = api.OffLimits
	notEnough = api.NotEnough
)

// P10.2: fouls, and what is in force in the end.
func TestPlay(t *testing.T) {
	for i, x := range []struct {
		l     []api.ClubCommand
		fouls []api.Foul
		force []int
	}{
		{nil, nil, nil},
		{commands(shoot("ann", 9), shoot("ann", 12), back(1), shoot("ben", 10), again(1), goes("ann", 1)), fouls(ok, offLimits, ok, ok, notEnough, api.Against), list(3)},
		{commands(shoot("ann", 9)), fouls(ok), list(0)},
		{commands(back(1), again(1), back(0), again(0), back(-1), again(-1)), fouls(notEnough, notEnough, offLimits, offLimits, offLimits, offLimits), nil},
		{commands(back(math.MaxInt), again(math.MinInt), back(999999999), again(999999999), back(-999999999)), fouls(offLimits, offLimits, notEnough, notEnough, offLimits), nil},
		{commands(shoot("ann", 9), back(0), back(-1), back(2), back(1), back(1)), fouls(ok, offLimits, offLimits, notEnough, ok, notEnough), nil},
		{commands(shoot("ann", 9), back(1), again(2), again(0), again(1), again(1)), fouls(ok, ok, notEnough, offLimits, ok, notEnough), list(0)},
		{commands(shoot("ann", 8), shoot("ann", 9), give(), back(2), again(1)), fouls(ok, ok, ok, ok, ok), list(0, 1)},
		{commands(shoot("ann", 8), shoot("ann", 9), give(), back(3), again(1), again(2)), fouls(ok, ok, ok, ok, ok, ok), list(0, 1, 2)},
		{commands(shoot("ann", 8), shoot("ann", 9), give(), back(1), back(1), back(1), again(2)), fouls(ok, ok, ok, ok, ok, ok, ok), list(0, 1)},
		{commands(shoot("ann", 8), shoot("ann", 9), back(2), again(1), shoot("ben", 9), again(1)), fouls(ok, ok, ok, ok, ok, notEnough), list(0, 4)},
		{commands(shoot("ann", 8), back(1), shoot("ann", 12), again(1)), fouls(ok, ok, offLimits, ok), list(0)},
		{commands(shoot("ann", 8), back(1), back(1), again(1)), fouls(ok, ok, notEnough, ok), list(0)},
		{commands(shoot("ann", 8), back(1), shoot("ann", 9), back(1), again(1)), fouls(ok, ok, ok, ok, ok), list(2)},
		{commands(give(), goes("ann", 1), back(2), goes("ann", 1), again(1), goes("ann", 1)), fouls(ok, ok, ok, api.Against, ok, ok), list(0, 5)},
		{commands(shoot("", 9), back(1), api.ClubCommand{Kind: api.ClubAgain, A: 1, B: 1}, api.ClubCommand{Kind: 14}, shoot("zed", 9), give(make([]int, 25)...)), fouls(api.BadName, notEnough, offLimits, offLimits, api.Unknown, api.BadCount), nil},
		{commands(shoot("dot", 1), shoot("dot", 2), shoot("dot", 3), back(2), shoot("dot", 4), shoot("dot", 5), back(1), again(1), back(3), again(2)), fouls(ok, ok, ok, ok, ok, ok, ok, ok, ok, ok), list(0, 4)},
	} {
		l, force, now := played(t, exampleBook(), x.l)
		if !slices.Equal(l, x.fouls) || !slices.Equal(force, x.force) {
			t.Error(i, l, force)
		}
		want := exampleBook()
		for _, k := range x.force {
			want = done(t, want, x.l[k])
		}
		if !same(now, want) {
			t.Error(i, now)
		}
	}
}

// P10.2: how many commands there may be.
func TestPlayMany(t *testing.T) {
	for many := range 34 {
		l := slices.Repeat(commands(delay(1, 2)), many)
		fouls, force, now, f := club.Play(exampleBook(), l)
		ranks, g := club.Course(exampleBook(), l, 0)
		if many > 30 {
			if f != api.BadCount || g != api.BadCount || len(fouls)+len(force)+len(ranks) > 0 || !isZero(now) {
				t.Error(many, f, g)
			}
			continue
		}
		if f != api.Fair || g != api.Fair || len(fouls) != many || len(force) != many || len(ranks) != many+1 {
			t.Error(many, f, g)
		}
	}
	if _, f := club.Course(exampleBook(), make([]api.ClubCommand, 31), 4); f != api.BadCount {
		t.Error(f)
	}
}

// tale is what must be so after some commands: which are in force, and which were taken back, the last one last.
type tale struct{ force, back []int }

// book returns the book that the commands in force make of the first one.
func (x tale) book(b api.ClubBook, l []api.ClubCommand) api.ClubBook {
	for _, i := range x.force {
		b, _ = wantedDo(b, l[i])
	}
	return b
}

// next returns what is so after one more command, and its foul.
func (x tale) next(b api.ClubBook, l []api.ClubCommand, i int) (tale, api.Foul) {
	c := l[i]
	if f := commandFoul(c); f != api.Fair {
		return x, f
	}
	switch many := c.A; {
	case c.Kind < api.ClubBack:
		if _, f := wantedDo(x.book(b, l), c); f != api.Fair {
			return x, f
		}
		return tale{append(slices.Clone(x.force), i), nil}, api.Fair
	case many < 1:
		return x, api.OffLimits
	case c.Kind == api.ClubBack && many > len(x.force) || c.Kind == api.ClubAgain && many > len(x.back):
		return x, api.NotEnough
	case c.Kind == api.ClubBack:
		rest := len(x.force) - many
		taken := slices.Clone(x.force[rest:])
		slices.Reverse(taken)
		return tale{slices.Clone(x.force[:rest]), slices.Concat(x.back, taken)}, api.Fair
	default:
		rest := len(x.back) - many
		taken := slices.Clone(x.back[rest:])
		slices.Reverse(taken)
		return tale{slices.Concat(x.force, taken), slices.Clone(x.back[:rest])}, api.Fair
	}
}

// P10.2, P10.5: random commands are played as they are told, and the book is what those in force make of the first one.
func TestPlayRandom(t *testing.T) {
	r := rand.New(rand.NewSource(1006))
	many := make(map[api.ClubKind]int)
	for range 400 {
		b := randomBook(r)
		l := randomLog(r, b, between(r, 0, 14))
		var x tale
		var want []api.Foul
		for i, c := range l {
			var f api.Foul
			x, f = x.next(b, l, i)
			want = append(want, f)
			if f == api.Fair {
				many[c.Kind]++
			}
		}
		fouls, force, now := played(t, b, l)
		if !slices.Equal(fouls, want) || !slices.Equal(force, x.force) || !slices.IsSorted(force) || !same(now, x.book(b, l)) {
			t.Fatal(b, l, fouls, want, force, x)
		}
	}
	if many[api.ClubBack] < 50 || many[api.ClubAgain] < 20 {
		t.Error(many)
	}
}

// P10.5: a command with a foul changes nothing.
func TestPlayFoulsChangeNothing(t *testing.T) {
	r := rand.New(rand.NewSource(1007))
	for range 200 {
		b := randomBook(r)
		l := randomLog(r, b, 12)
		fouls, force, now := played(t, b, l)
		var rest []api.ClubCommand
		var restForce []int
		for i, c := range l {
			if slices.Contains(force, i) {
				restForce = append(restForce, len(rest))
			}
			if fouls[i] == api.Fair {
				rest = append(rest, c)
			}
		}
		again, last, then := played(t, b, rest)
		if slices.ContainsFunc(again, func(f api.Foul) bool { return f != api.Fair }) || !slices.Equal(last, restForce) || !same(now, then) {
			t.Fatal(b, l, fouls, again)
		}
	}
}

// P10.6: what is taken back is as if it had never been given; entered again it is as it was.
func TestPlayTakenBack(t *testing.T) {
	r := rand.New(rand.NewSource(1008))
	const most = 8
	for range 150 {
		b := randomBook(r)
		l := randomLog(r, b, most)
		before, inForce, now := played(t, b, l)
		if len(inForce) == 0 {
			continue
		}
		n := between(r, 1, len(inForce))
		taken := append(slices.Clone(l), back(n))
		fouls, force, then := played(t, b, taken)
		if fouls[most] != api.Fair || !slices.Equal(fouls[:most], before) || !slices.Equal(force, inForce[:len(inForce)-n]) {
			t.Fatal(l, n, fouls, force)
		}
		var kept []api.ClubCommand
		for _, i := range force {
			kept = append(kept, l[i])
		}
		if _, _, never := played(t, b, kept); !same(then, never) {
			t.Fatal(l, n, "not as if it had never been given")
		}
		fouls, force, then = played(t, b, append(taken, again(n)))
		if fouls[most+1] != api.Fair || !slices.Equal(force, inForce) || !same(then, now) {
			t.Fatal(l, n, fouls, force, inForce)
		}
		// Step by step it is the same.
		steps := slices.Concat(l, slices.Repeat(commands(back(1)), n), slices.Repeat(commands(again(1)), n))
		if _, force, then := played(t, b, steps); !slices.Equal(force, inForce) || !same(then, now) {
			t.Fatal(l, n, force, inForce)
		}
	}
}

// P10.2: the ranks before the first command, and after each one.
func TestCourse(t *testing.T) {
	first, none := list(3, 4, 2, 0, 1), make([]int, 5)
	then, out, dot := list(1, 4, 3, 0, 2), list(4, 3, 2, 0, 1), list(0, 0, 0, 1, 0)
	l := commands(shoot("ann", 10), shoot("ann", 10), back(1), again(1), shoot("ann", 9), back(2), withdraw("ann"), shoot("", 0))
	for class, want := range map[int][][]int{
		0: {first, first, then, first, then, then, first, out, out},
		1: {dot, dot, dot, dot, dot, dot, dot, dot, dot},
		2: {none, none, none, none, none, none, none, none, none},
		3: {none, none, none, none, none, none, none, none, none},
	} {
		ranks, f := club.Course(exampleBook(), l, class)
		if f != api.Fair || !slices.EqualFunc(ranks, want, slices.Equal[[]int]) {
			t.Error(class, ranks, f)
		}
	}
	for _, class := range list(-1, 4, math.MinInt, math.MaxInt) {
		if ranks, f := club.Course(exampleBook(), l, class); f != api.OffLimits || len(ranks) > 0 {
			t.Error(class, ranks, f)
		}
	}
	if ranks, f := club.Course(exampleBook(), nil, 0); f != api.Fair || !slices.EqualFunc(ranks, [][]int{first}, slices.Equal[[]int]) {
		t.Error(ranks, f)
	}
}

// P10.2, P10.5: the ranks are those of the book after each command, and commands that come later change none of an earlier moment.
func TestCourseRandom(t *testing.T) {
	r := rand.New(rand.NewSource(1009))
	for range 150 {
		b := randomBook(r)
		l := randomLog(r, b, 10)
		class := r.Intn(3)
		all, f := club.Course(b, l, class)
		fair(t, f)
		for n := range len(l) + 1 {
			_, _, now := played(t, b, l[:n])
			ranks, f := round.Ranks(now.Round, class)
			if f != api.Fair || !slices.Equal(ranks, all[n]) {
				t.Fatal(b, l, n, ranks, all)
			}
			some, f := club.Course(b, l[:n], class)
			if f != api.Fair || !slices.EqualFunc(some, all[:n+1], slices.Equal[[]int]) {
				t.Fatal(b, l, n, some, all)
			}
		}
	}
}
