package club_test

import (
	"math/rand"
	"reflect"
	"slices"
	"strconv"
	"strings"
	"testing"

	"nock/api"
	"nock/arrow"
	"nock/bracket"
	"nock/butt"
	"nock/card"
	"nock/club"
	"nock/face"
	"nock/field"
	"nock/line"
	"nock/record"
	"nock/round"
)

func list(numbers ...int) []int { return numbers }

func span(least, most int) api.Span { return api.Span{Min: least, Max: most} }

// only returns the span of one number.
func only(n int) api.Span { return span(n, n) }

// fair stops a test if there is a foul.
func fair(t *testing.T, f api.Foul) {
	t.Helper()
	if f != api.Fair {
		t.Fatal("foul", f)
	}
}

// part is a part of a file: its word, and its lines.
type part struct{ word, text string }

// exampleParts are the parts of the book of the examples, in their order.
func exampleParts() []part {
	return []part{
		{"stock", "rule 10 2 5 3\nshaft a 400..405 700 250..252\nshaft b 404..408 701 251\nshaft c 398..402 700..701 249..250\nshaft d 409..412 700 255\nshaft e 402 702 252..254\nshaft f 405..406 701..702 253\nshaft g 450 700 250\n"},
		{"sight", "sight 2 4 1 2\nshot 10 30..32 0 0\nshot 20 55..60 0 0\nshot 30 96..99 1 1\n"},
		{"face", "target 1 each\nring 2 10\nring 4 9\nring 6 8\nspot 0 0\nspot 40 0\nhole 0 1..3 0\nhole 1 40 5..7\nhole 0 0 0..1 100 0\nin 0 1\n"},
		{"card", "card 3 1\nend\narrow 10/11\narrow 8/9\narrow 9\ntold 10/9/9\ntold 10/9/8\nend\narrow 6/7\narrow 6/7\narrow 10\n"},
		{"round", "leg 70 1 3 11\nleg 50 2 2 10\narcher ann 0 in 10/9/11/10/8\narcher ben 0 in 11/11/7/9\narcher cam 0 in 9/9/9/9/9/9/9\noff 9 4\narcher dot 1 in 10\narcher eve 0 in 9/9/9/9/9/9/9\noff 9 2\noff 10 1\n"},
		{"bracket", "bracket 5\nseed ana\nseed ben\nseed cem\nseed dia\nseed eva\nmatch 6 0 2 28/27/26/26/25/28/29/28/27/26 -\nmatch 1 3 4 20/21/20/21/20/21 -\n"},
		{"line", "plan 2 1\nperson ann 0\nperson bob 1\nstep call back\nstep shoot nobody\nstep stop free\nstep clear empty\nwatch 10 50 3\narcher ann 0\nshot 5..12 9\nshot 20 10\nshot 15..30 8\nshot 45..60 11\narcher cid 20\nshot 65 7\n"},
		{"state", "state 0 0/0/0/0\n"},
		{"field", "course 60 4\nsize 5..15\nsize 10..18\npath 0 1 40\npath 1 2 30\npath 2 3 30\npath 0 3 80\npeg a 20 0..12 1 1 4..6 2..3 1\npeg b 13 5 0 2 4..5 3 2\npeg c 25 -7..7 1 3 5 2..4 -\ngroup red 0 0\ngroup blue 1 0\n"},
		{"butt", "boss 20 1\nlayer 5 0 9 3\nlayer 12 12 0 0\nsession 8 4 0..2 0\nsession 6 6..7 0 0\nground\nstand s 70 122 2\nstand t 50 80 1\nstand u 70 80 1\narcher ann 122 60 90\narcher bob 80 40 60\narcher cid 80 50 50\narcher dot 122 70 70\narcher eve 122 70 90\n"},
		{"record", "kind r 2 3 7000 30 10\nevent a 100 3 3 6980..7020\nevent b 200 2 2..4 7000\nevent c 300 1 5 7000\nclaim ann 0 0 670 105..115 -1\nclaim ben 1 0 680 205 -1\nclaim cem 2 0 690 301 -1\nclaim dia 1 0 670 210 400\nclass x 660 2 2 150\ntable 500/600/700\n"},
	}
}

// bookOf returns the book of the parts of a file, as the packages of the parts read them.
func bookOf(parts []part) (b api.ClubBook, fouls [10]api.Foul) {
	b.Stock, _, fouls[0] = arrow.ParseStock(parts[0].text)
	b.Sight, _, fouls[1] = arrow.ParseCard(parts[1].text)
	b.End, _, fouls[2] = face.Parse(parts[2].text)
	b.Sheet, _, fouls[3] = card.Parse(parts[3].text)
	b.Round, _, fouls[4] = round.Parse(parts[4].text)
	b.Bracket, _, fouls[5] = bracket.Parse(parts[5].text)
	b.Plan, b.Watch, _, fouls[6] = line.Parse(parts[6].text)
	b.Course, _, fouls[7] = field.Parse(parts[8].text)
	b.Boss, b.Ground, _, fouls[8] = butt.Parse(parts[9].text)
	b.Records, _, fouls[9] = record.Parse(parts[10].text)
	b.State.People = make([]api.LineStand, len(b.Plan.People))
	return b, fouls
}

// exampleBook is the book B of the chapter.
func exampleBook() api.ClubBook {
	b, fouls := bookOf(exampleParts())
	if fouls != [10]api.Foul{} {
		panic("the example has a foul")
	}
	return b
}

// sumOf is the sum of a text from a number on.
func sumOf(n int, text string) int {
	for i := range len(text) {
		n = (257*n + int(text[i]) + 7) % 65521
	}
	return n
}

// fileOf returns a file with some parts.
func fileOf(parts []part) string {
	out, sum := "", 0
	for _, p := range parts {
		sum = sumOf(sum, p.text)
		out += "part " + p.word + " " + strconv.Itoa(strings.Count(p.text, "\n")) + " " + strconv.Itoa(sum) + "\n" + p.text
	}
	return out
}

// partsOf returns the parts of the file of a book, as the packages of the parts print them.
func partsOf(t *testing.T, b api.ClubBook) []part {
	t.Helper()
	state := "-"
	for i, x := range b.State.People {
		if i == 0 {
			state = ""
		}
		state += "/" + strconv.Itoa(int(x.Heard)) + "/" + strconv.Itoa(int(x.Place))
	}
	parts := []part{{word: "stock"}, {word: "sight"}, {word: "face"}, {word: "card"}, {word: "round"}, {word: "bracket"}, {word: "line"}, {word: "state"}, {word: "field"}, {word: "butt"}, {word: "record"}}
	var fouls [10]api.Foul
	parts[0].text, fouls[0] = arrow.PrintStock(b.Stock)
	parts[1].text, fouls[1] = arrow.PrintCard(b.Sight)
	parts[2].text, fouls[2] = face.Print(b.End)
	parts[3].text, fouls[3] = card.Print(b.Sheet)
	parts[4].text, fouls[4] = round.Print(b.Round)
	parts[5].text, fouls[5] = bracket.Print(b.Bracket)
	parts[6].text, fouls[6] = line.Print(b.Plan, b.Watch)
	parts[7].text = "state " + strconv.Itoa(b.State.Next) + " " + strings.TrimPrefix(state, "/") + "\n"
	parts[8].text, fouls[7] = field.Print(b.Course)
	parts[9].text, fouls[8] = butt.Print(b.Boss, b.Ground)
	parts[10].text, fouls[9] = record.Print(b.Records)
	if fouls != [10]api.Foul{} {
		t.Fatal("fouls", fouls)
	}
	return parts
}

// copyDeep returns a copy of a value in which an empty list is nil.
func copyDeep(v reflect.Value) reflect.Value {
	o := reflect.New(v.Type()).Elem()
	switch v.Kind() {
	case reflect.Struct:
		for i := range v.NumField() {
			o.Field(i).Set(copyDeep(v.Field(i)))
		}
	case reflect.Slice:
		for i := range v.Len() {
			o.Set(reflect.Append(o, copyDeep(v.Index(i))))
		}
	default:
		o.Set(v)
	}
	return o
}

// plain returns a copy in which an empty list is nil.
func plain[T any](x T) T {
	return copyDeep(reflect.ValueOf(&x).Elem()).Interface().(T)
}

// emptied returns a copy in which nil is an empty list.
func emptied[T any](x T) T {
	x = plain(x)
	var fill func(v reflect.Value)
	fill = func(v reflect.Value) {
		switch v.Kind() {
		case reflect.Struct:
			for i := range v.NumField() {
				fill(v.Field(i))
			}
		case reflect.Slice:
			if v.IsNil() {
				v.Set(reflect.MakeSlice(v.Type(), 0, 1))
			}
			for i := range v.Len() {
				fill(v.Index(i))
			}
		}
	}
	fill(reflect.ValueOf(&x).Elem())
	return x
}

// spoil changes all elements of all lists, and what is behind them.
func spoil[T any](x T) {
	var change func(v reflect.Value, inList bool)
	change = func(v reflect.Value, inList bool) {
		switch v.Kind() {
		case reflect.Struct:
			for i := range v.NumField() {
				change(v.Field(i), inList)
			}
		case reflect.Slice:
			for all, i := v.Slice(0, v.Cap()), 0; i < all.Len(); i++ {
				change(all.Index(i), true)
			}
		case reflect.Int:
			if inList {
				v.SetInt(777)
			}
		case reflect.String:
			if inList {
				v.SetString("spoilt")
			}
		case reflect.Bool:
			if inList {
				v.SetBool(!v.Bool())
			}
		}
	}
	change(reflect.ValueOf(&x).Elem(), false)
}

// same says whether two values are the same, if an empty list is nil.
func same[T any](a, b T) bool {
	return reflect.DeepEqual(plain(a), plain(b))
}

// isZero says whether a value is zero, if an empty list is nil.
func isZero[T any](x T) bool {
	var zero T
	return same(x, zero)
}

// change is a change of a book.
type change func(b *api.ClubBook)

// with returns the book of the examples with some changes.
func with(changes ...change) api.ClubBook {
	b := exampleBook()
	for _, c := range changes {
		c(&b)
	}
	return b
}

// wrong is a change by which a part has a foul.
type wrong struct {
	change change
	foul   api.Foul
}

// wrongs returns, for each part in the order of their fouls, two changes that give it different fouls.
func wrongs() [][2]wrong {
	return [][2]wrong{
		{{func(b *api.ClubBook) { b.Stock.Rule.Many = 1 }, api.OffLimits}, {func(b *api.ClubBook) { b.Stock.Shafts[0].Name = "" }, api.BadName}},
		{{func(b *api.ClubBook) { b.Sight.Rule.Wind = -1 }, api.OffLimits}, {func(b *api.ClubBook) { b.Sight.Shots = make([]api.SightShot, 9) }, api.BadCount}},
		{{func(b *api.ClubBook) { b.End.Target.Spots = nil }, api.BadCount}, {func(b *api.ClubBook) { b.End.Arrows[3].In = 3 }, api.Unknown}},
		{{func(b *api.ClubBook) { b.Sheet.Ends[0].Told[0] = list(9, 9, 10) }, api.OutOfOrder}, {func(b *api.ClubBook) { b.Sheet.Rule.Slips = 4 }, api.OffLimits}},
		{{func(b *api.ClubBook) { b.Round.Legs = nil }, api.BadCount}, {func(b *api.ClubBook) { b.Round.Archers[1].Name = "ann" }, api.Twice}},
		{{func(b *api.ClubBook) { b.Bracket.Results[0].Sets = b.Bracket.Results[0].Sets[:2] }, api.NotEnough}, {func(b *api.ClubBook) { b.Bracket.Seeds[0] = "A" }, api.BadName}},
		{{func(b *api.ClubBook) { b.Plan.Fails = list(2) }, api.Unknown}, {func(b *api.ClubBook) { b.Plan.Steps = nil }, api.BadCount}},
		{{func(b *api.ClubBook) { b.State.Next = 4 }, api.Unknown}, {func(b *api.ClubBook) { b.State.People = b.State.People[:1] }, api.BadCount}},
		{{func(b *api.ClubBook) { b.Watch.Shut = 9 }, api.OutOfOrder}, {func(b *api.ClubBook) { b.Watch.Count = 0 }, api.OffLimits}},
		{{func(b *api.ClubBook) { b.Course.Paths[0].Two = 0 }, api.Circular}, {func(b *api.ClubBook) { b.Course.Groups[1].Start = 0 }, api.Against}},
		{{func(b *api.ClubBook) { b.Boss.Layers = nil }, api.BadCount}, {func(b *api.ClubBook) { b.Boss.Limit = -1 }, api.OffLimits}},
		{{func(b *api.ClubBook) { b.Ground.Archers[0].Near = 90; b.Ground.Archers[0].Far = 60 }, api.OutOfOrder}, {func(b *api.ClubBook) { b.Ground.Stands[0].Name = "" }, api.BadName}},
		{{func(b *api.ClubBook) { b.Records.Claims[0].Event = 3 }, api.Unknown}, {func(b *api.ClubBook) { b.Records.Kinds[0].Star = 6 }, api.OffLimits}},
	}
}

func shoot(name string, number int) api.ClubCommand {
	return api.ClubCommand{Kind: api.ClubShoot, Name: name, A: number}
}

func withdraw(name string) api.ClubCommand {
	return api.ClubCommand{Kind: api.ClubWithdraw, Name: name}
}

func result(match, one, two int, sets, offs []int) api.ClubCommand {
	return api.ClubCommand{Kind: api.ClubResult, A: match, B: one, C: two, List: sets, More: offs}
}

func measure(name string, what int, x api.Span) api.ClubCommand {
	return api.ClubCommand{Kind: api.ClubMeasure, Name: name, A: what, X: x}
}

func look(end, arrow int, marks ...int) api.ClubCommand {
	return api.ClubCommand{Kind: api.ClubLook, A: end, B: arrow, List: marks}
}

func tell(end int, marks ...int) api.ClubCommand {
	return api.ClubCommand{Kind: api.ClubTell, A: end, List: marks}
}

func hole(arrow int, x, y api.Span) api.ClubCommand {
	return api.ClubCommand{Kind: api.ClubHole, A: arrow, X: x, Y: y}
}

func give(missed ...int) api.ClubCommand {
	return api.ClubCommand{Kind: api.ClubGive, List: missed}
}

func goes(name string, place int) api.ClubCommand {
	return api.ClubCommand{Kind: api.ClubGo, Name: name, A: place}
}

func delay(delays ...int) api.ClubCommand {
	return api.ClubCommand{Kind: api.ClubDelay, List: delays}
}

func learn(what, index int, x api.Span) api.ClubCommand {
	return api.ClubCommand{Kind: api.ClubLearn, A: what, B: index, X: x}
}

func gone(claim, day int) api.ClubCommand {
	return api.ClubCommand{Kind: api.ClubGone, A: claim, B: day}
}

func back(many int) api.ClubCommand {
	return api.ClubCommand{Kind: api.ClubBack, A: many}
}

func again(many int) api.ClubCommand {
	return api.ClubCommand{Kind: api.ClubAgain, A: many}
}

func commands(all ...api.ClubCommand) []api.ClubCommand { return all }

func fouls(all ...api.Foul) []api.Foul { return all }

// asks returns a question; numbers that are not given are 0.
func asks(kind api.ClubQuestion, numbers ...int) api.ClubAsk {
	numbers = append(numbers, 0, 0, 0)
	return api.ClubAsk{Kind: kind, A: numbers[0], B: numbers[1], C: numbers[2]}
}

// sealed returns a line with its sum.
func sealed(text string) string {
	return text + " " + strconv.Itoa(sumOf(0, text)) + "\n"
}

func done(t *testing.T, b api.ClubBook, all ...api.ClubCommand) api.ClubBook {
	t.Helper()
	for _, c := range all {
		o, f := club.Do(b, c)
		if f != api.Fair {
			t.Fatal(c, "foul", f)
		}
		b = o
	}
	return b
}

func written(t *testing.T, b api.ClubBook) string {
	t.Helper()
	s, f := club.Write(b)
	fair(t, f)
	return s
}

func played(t *testing.T, b api.ClubBook, l []api.ClubCommand) (fouls []api.Foul, force []int, now api.ClubBook) {
	t.Helper()
	fouls, force, now, f := club.Play(b, l)
	fair(t, f)
	return fouls, force, now
}

func answered(t *testing.T, b api.ClubBook, q api.ClubAsk) (bool, []int) {
	t.Helper()
	yes, l, f := club.Ask(b, q)
	if f != api.Fair {
		t.Fatal(q, "foul", f)
	}
	return yes, l
}

func proved(t *testing.T, b api.ClubBook, q api.ClubAsk, yes bool, l []int) bool {
	t.Helper()
	is, f := club.Proves(b, q, yes, l)
	if f != api.Fair {
		t.Fatal(q, "foul", f)
	}
	return is
}

func directed(t *testing.T, b api.ClubBook, text string) (string, api.ClubBook) {
	t.Helper()
	out, now, f := club.Direct(b, text)
	fair(t, f)
	return out, now
}

// pick returns one of some elements.
func pick[T any](r *rand.Rand, all []T) T { return all[r.Intn(len(all))] }

// between returns a number from least to most.
func between(r *rand.Rand, least, most int) int { return least + r.Intn(most-least+1) }

// randomSpan returns a span from least to most that is often one number.
func randomSpan(r *rand.Rand, least, most int) api.Span {
	a, b := between(r, least, most), between(r, least, most)
	if r.Intn(3) == 0 {
		return only(a)
	}
	return span(min(a, b), max(a, b))
}

// some returns some of the numbers below many, ascending.
func some(r *rand.Rand, many int) []int {
	var l []int
	for i := range many {
		if r.Intn(2) == 0 {
			l = append(l, i)
		}
	}
	return l
}

// fallen returns numbers, the greatest first.
func fallen(l []int) []int {
	slices.Sort(l)
	slices.Reverse(l)
	return l
}

// until makes something until it has no foul.
func until[T any](check func(x T) api.Foul, next func() T) T {
	for {
		if x := next(); check(x) == api.Fair {
			return x
		}
	}
}
