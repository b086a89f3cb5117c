package club_test

import (
	"math"
	"math/rand"
	"slices"
	"strconv"
	"strings"
	"testing"

	"nock/api"
	"nock/arrow"
	"nock/bracket"
	"nock/butt"
	"nock/card"
	"nock/club"
	"nock/face"
	"nock/field"
	"nock/line"
	"nock/record"
	"nock/round"
)

// P10.3: sums, and what has none.
func TestSum(t *testing.T) {
	for i, x := range []struct {
		from int
		text string
		want int
		f    api.Foul
	}{
		{0, "", 0, ok}, {5, "", 5, ok}, {65520, "", 65520, ok}, {0, "a", 104, ok}, {5, "ab", 29473, ok}, {0, "ab", 26833, ok}, {0, "ba", 27089, ok}, {0, "\x00", 7, ok}, {0, "\x00\x00", 1806, ok}, {0, "\xff", 262, ok}, {65520, "\x00", 65271, ok}, {0, "ä", 52085, ok}, {255, "\n", 31, ok}, {1, "\n", 274, ok},
		{-1, "a", 0, offLimits}, {65521, "", 0, offLimits}, {math.MinInt, "", 0, offLimits}, {math.MaxInt, "a", 0, offLimits}, {-1, strings.Repeat("a", 60001), 0, offLimits}, {0, strings.Repeat("a", 60001), 0, api.BadCount}, {65520, strings.Repeat("\n", 1<<17), 0, api.BadCount},
	} {
		if n, f := club.Sum(x.from, x.text); n != x.want || f != x.f {
			t.Error(i, n, f)
		}
	}
	long := strings.Repeat("z\xff", 30000)
	if n, f := club.Sum(7, long); f != ok || n != sumOf(7, long) {
		t.Error(n, f)
	}
}

// P10.7: the sum of two strings is that of the second one from the sum of the first one on.
func TestSumOfTwo(t *testing.T) {
	r := rand.New(rand.NewSource(1010))
	for range 2000 {
		text := make([]byte, r.Intn(40))
		r.Read(text)
		from, at := r.Intn(65521), r.Intn(len(text)+1)
		all, f1 := club.Sum(from, string(text))
		first, f2 := club.Sum(from, string(text[:at]))
		both, f3 := club.Sum(first, string(text[at:]))
		if all != both || all != sumOf(from, string(text)) || all < 0 || all > 65520 || f1+f2+f3 != ok {
			t.Fatal(from, text, at, all, both)
		}
	}
}

// P10.3: what is written, byte for byte.
func TestWrite(t *testing.T) {
	if s := written(t, exampleBook()); s != fileOf(exampleParts()) {
		t.Error(s)
	}
	const want = "part stock 8 29281\nrule 10 2 5 3\n"
	if s := written(t, exampleBook()); !strings.HasPrefix(s, want) || strings.Count(s, "\n") != 114 {
		t.Errorf("%.80q %d", s, strings.Count(s, "\n"))
	}
	for state, change := range map[string]change{
		"state 0 -\n":          func(b *api.ClubBook) { b.Plan.People, b.State.People = nil, nil },
		"state 3 -\n":          func(b *api.ClubBook) { b.Plan.People, b.State = nil, api.LineState{Next: 3} },
		"state 2 4/2/0/1\n":    func(b *api.ClubBook) { b.State = stateOf(2, 4, 2, 0, 1) },
		"state 1 3/0\n":        func(b *api.ClubBook) { b.Plan.People, b.State = b.Plan.People[:1], stateOf(1, 3, 0) },
		"state 0 1/2/2/1\n":    func(b *api.ClubBook) { b.State = stateOf(0, 1, 2, 2, 1) },
		"hole 0 2..3 0\n":      func(b *api.ClubBook) { b.End.Arrows[0].Boxes[0].X.Min = 2 },
		"archer ann 0 out -\n": func(b *api.ClubBook) { b.Round.Archers[0].Arrows, b.Round.Archers[0].Out = nil, true },
	} {
		b := with(change)
		s := written(t, b)
		if !strings.Contains(s, "\n"+state) || s != fileOf(partsOf(t, b)) {
			t.Error(state, s)
		}
	}
}

// stateOf returns a state with the signals and places of people.
func stateOf(next int, stands ...int) api.LineState {
	s := api.LineState{Next: next}
	for i := 0; i < len(stands); i += 2 {
		s.People = append(s.People, api.LineStand{Heard: api.LineSignal(stands[i]), Place: api.LinePlace(stands[i+1])})
	}
	return s
}

// P10.3, P10.7: random books are written as they should be, and read as they were.
func TestWriteAndRead(t *testing.T) {
	r := rand.New(rand.NewSource(1011))
	for range 400 {
		b := randomBook(r)
		s := written(t, b)
		if s != fileOf(partsOf(t, b)) {
			t.Fatal(b, s)
		}
		o, n, f := club.Read(s)
		if f != ok || n != 0 || !same(o, b) {
			t.Fatal(b, s, o, n, f)
		}
	}
}

// fileLine is what is said of a file that cannot be read.
type fileLine struct {
	number int
	f      api.Foul
}

func checkRead(t *testing.T, text string, want fileLine) {
	t.Helper()
	b, n, f := club.Read(text)
	if (fileLine{n, f}) != want || !isZero(b) {
		t.Errorf("%.300q: %d %d, not %v", text, n, f, want)
	}
}

// ownLine returns the number of the line with which a part of a file begins.
func ownLine(parts []part, i int) int {
	n := 1
	for _, p := range parts[:i] {
		n += 1 + strings.Count(p.text, "\n")
	}
	return n
}

// replaced returns the parts of the examples with another text of one of them.
func replaced(i int, text string) []part {
	parts := exampleParts()
	parts[i].text = text
	return parts
}

// P10.3: a text that is too long, or does not end with a line feed.
func TestReadLength(t *testing.T) {
	whole := fileOf(exampleParts())
	checkRead(t, "", fileLine{0, api.BadForm})
	checkRead(t, whole[:len(whole)-1], fileLine{0, api.BadForm})
	checkRead(t, whole+" ", fileLine{0, api.BadForm})
	checkRead(t, whole+"part", fileLine{0, api.BadForm})
	checkRead(t, strings.Repeat("\n", 60001), fileLine{0, api.BadCount})
	checkRead(t, strings.Repeat("p", 60001), fileLine{0, api.BadCount})
	checkRead(t, strings.Repeat("p", 60000), fileLine{0, api.BadForm})
	checkRead(t, strings.Repeat("\n", 60000), fileLine{1, api.BadForm})
	checkRead(t, strings.Repeat("p", 59999)+"\n", fileLine{1, api.BadForm})
	checkRead(t, whole+strings.Repeat("\n", 60000-len(whole)), fileLine{115, api.BadForm})
	checkRead(t, whole+strings.Repeat("\n", 60001-len(whole)), fileLine{0, api.BadCount})
}

// P10.3: the lines with which parts begin.
func TestReadHeads(t *testing.T) {
	parts := exampleParts()
	lines := strings.SplitAfter(fileOf(parts), "\n")
	// The text ends with a line feed, after which there is no line.
	lines = lines[:len(lines)-1]
	for i, p := range parts {
		own := ownLine(parts, i)
		words := strings.Fields(lines[own-1])
		if words[0] != "part" || words[1] != p.word {
			t.Fatal(words)
		}
		many, sum := words[2], words[3]
		other := parts[(i+1)%len(parts)].word
		for _, x := range []struct {
			head string
			want api.Foul
		}{
			{"", api.BadForm}, {"part", api.BadForm}, {"part " + p.word, api.BadForm}, {"part " + p.word + " " + many, api.BadForm}, {"part " + p.word + " " + many + " " + sum + " 0", api.BadForm}, {"part " + p.word + " " + many + " " + sum + " ", api.BadForm}, {" part " + p.word + " " + many + " " + sum, api.BadForm}, {"part  " + p.word + " " + many + " " + sum, api.BadForm}, {"part " + p.word + "  " + many + " " + sum, api.BadForm}, {"part " + p.word + " " + many + "  " + sum, api.BadForm}, {"part\t" + p.word + " " + many + " " + sum, api.BadForm}, {"part " + p.word + " " + many + " " + sum + "\r", api.BadForm},
			{"parts " + p.word + " " + many + " " + sum, api.BadForm}, {"Part " + p.word + " " + many + " " + sum, api.BadForm}, {"part " + p.word + "s " + many + " " + sum, api.BadForm}, {"part " + other + " " + many + " " + sum, api.BadForm}, {p.word + " " + many + " " + sum, api.BadForm}, {"state 0 0/0/0/0", api.BadForm}, {"ask seat 3 0 0", api.BadForm}, {"give -", api.BadForm},
			{"part " + p.word + " x " + sum, api.BadForm}, {"part " + p.word + " " + many + " x", api.BadForm}, {"part " + p.word + " 0" + many + " " + sum, api.BadForm}, {"part " + p.word + " +" + many + " " + sum, api.BadForm}, {"part " + p.word + " -" + many + " " + sum, api.BadForm}, {"part " + p.word + " -1 " + sum, api.BadForm}, {"part " + p.word + " -0 " + sum, api.BadForm}, {"part " + p.word + " " + many + " -0", api.BadForm}, {"part " + p.word + " " + many + " 0" + sum, api.BadForm}, {"part " + p.word + " 1000000000 " + sum, api.BadForm}, {"part " + p.word + " " + many + " 1000000000", api.BadForm}, {"part " + p.word + " " + many + ".." + many + "0 " + sum, api.BadForm}, {"part " + p.word + " " + many + "/1 " + sum, api.BadForm},
			{"part " + p.word + " 999999999 " + sum, api.BadCount}, {"part " + p.word + " " + strconv.Itoa(len(lines)-own+1) + " " + sum, api.BadCount}, {"part " + p.word + " " + strconv.Itoa(len(lines)-own+1) + " 0", api.BadCount}, {"part " + p.word + " " + strconv.Itoa(len(lines)-own+1) + " x", api.BadForm},
			{"part " + p.word + " " + many + " 0", api.Against}, {"part " + p.word + " " + many + " -" + sum, api.Against}, {"part " + p.word + " " + many + " 999999999", api.Against}, {"part " + p.word + " " + many + " 65521", api.Against}, {"part " + p.word + " 0 " + sum, api.Against},
		} {
			changed := slices.Clone(lines)
			changed[own-1] = x.head + "\n"
			checkRead(t, strings.Join(changed, ""), fileLine{own, x.want})
		}
		// A sum is that of all parts before it, too.
		alone := "part " + p.word + " " + many + " " + strconv.Itoa(sumOf(0, p.text)) + "\n"
		if i > 0 {
			changed := slices.Clone(lines)
			changed[own-1] = alone
			checkRead(t, strings.Join(changed, ""), fileLine{own, api.Against})
		}
		// Parts that lack, or are more.
		checkRead(t, strings.Join(slices.Concat(lines[:own-1], lines[own+strings.Count(p.text, "\n"):]), ""), fileLine{own, api.BadForm})
		if i > 0 {
			checkRead(t, fileOf(parts[:i]), fileLine{own, api.BadForm})
		}
		if !strings.HasPrefix(p.text, "state") {
			checkRead(t, strings.Join(lines[:own], ""), fileLine{own, api.BadCount})
		}
	}
	for _, more := range []string{"\n", "part stock 0 0\n", "part record 0 0\n", "hello\nhello\n", " \n"} {
		checkRead(t, strings.Join(lines, "")+more, fileLine{len(lines) + 1, api.BadForm})
	}
	checkRead(t, strings.Join(lines, "")+strings.Join(lines, ""), fileLine{len(lines) + 1, api.BadForm})
	turned := slices.Clone(parts)
	turned[2], turned[3] = turned[3], turned[2]
	checkRead(t, fileOf(turned), fileLine{ownLine(parts, 2), api.BadForm})
}

// foulOfText returns the number of a wrong line of a part, and its foul, as the package of the part finds them.
func foulOfText(i int, text string) (n int, f api.Foul) {
	switch i {
	case 0:
		_, n, f = arrow.ParseStock(text)
	case 1:
		_, n, f = arrow.ParseCard(text)
	case 2:
		_, n, f = face.Parse(text)
	case 3:
		_, n, f = card.Parse(text)
	case 4:
		_, n, f = round.Parse(text)
	case 5:
		_, n, f = bracket.Parse(text)
	case 6:
		_, _, n, f = line.Parse(text)
	case 8:
		_, n, f = field.Parse(text)
	case 9:
		_, _, n, f = butt.Parse(text)
	case 10:
		_, n, f = record.Parse(text)
	}
	return n, f
}

// P10.3: the fouls of the lines of parts, and their numbers.
func TestReadParts(t *testing.T) {
	r := rand.New(rand.NewSource(1012))
	many := make(map[api.Foul]int)
	for i, p := range exampleParts() {
		if p.word == "state" {
			continue
		}
		lines := strings.SplitAfter(p.text, "\n")
		lines = lines[:len(lines)-1]
		texts := []string{"", "\n", "hello\n", " \n" + p.text, p.text + "hello\n", p.text + "\n", p.text + p.text}
		for k := range lines {
			texts = append(texts, strings.Join(slices.Delete(slices.Clone(lines), k, k+1), ""), strings.Join(slices.Insert(slices.Clone(lines), k, "x 1\n"), ""), strings.Join(slices.Insert(slices.Clone(lines), k, lines[k]), ""))
		}
		for range 150 {
			changed := []byte(p.text)
			for range between(r, 1, 2) {
				if k := r.Intn(len(changed) - 1); changed[k] != '\n' {
					changed[k] = pick(r, []byte("0123456789-/. az"))
				}
			}
			texts = append(texts, string(changed))
		}
		for _, text := range texts {
			n, f := foulOfText(i, text)
			if f == ok {
				continue
			}
			parts := replaced(i, text)
			checkRead(t, fileOf(parts), fileLine{ownLine(parts, i) + n, f})
			many[f]++
		}
	}
	for _, f := range fouls(api.OffLimits, api.BadCount, api.BadForm, api.BadName, api.Twice, api.Unknown, api.OutOfOrder, api.Against) {
		if many[f] < 3 {
			t.Error(f, many[f])
		}
	}
}

// P10.3: the lines of the part that says the state.
func TestReadState(t *testing.T) {
	const state = 7
	own := ownLine(exampleParts(), state)
	for text, want := range map[string]api.Foul{
		"": api.BadForm, "\n": api.BadForm, "state\n": api.BadForm, "state 0\n": api.BadForm, "state 0 \n": api.BadForm, "state 0 0/0/0/0 0\n": api.BadForm, "state 0 0/0/0/0 \n": api.BadForm, " state 0 0/0/0/0\n": api.BadForm, "state  0 0/0/0/0\n": api.BadForm, "State 0 0/0/0/0\n": api.BadForm, "states 0 0/0/0/0\n": api.BadForm, "state x 0/0/0/0\n": api.BadForm, "state 0 0/0/0/x\n": api.BadForm, "state 00 0/0/0/0\n": api.BadForm, "state 0 0/0/0/00\n": api.BadForm, "state 0 0/0/0/0/\n": api.BadForm, "state - 0/0/0/0\n": api.BadForm, "state 0 0..1\n": api.BadForm, "state 0 0/0/0/-0\n": api.BadForm, "state 1000000000 0/0/0/0\n": api.BadForm,
		"state 0 0/0/0\n": api.BadForm, "state 0 0\n": api.BadForm, "state 0 0/0/0/0/0\n": api.BadForm, "state 9 0/0/0\n": api.BadForm, "state 0 0/0/0/0\n\n": api.BadForm, "\nstate 0 0/0/0/0\n": api.BadForm, "state 0 0/0/0/0\nstate 0 0/0/0/0\n": api.BadForm, "state 0\n0/0/0/0\n": api.BadForm, "state 0 0/0\n0/0\n": api.BadForm, "give -\n": api.BadForm, "part state 0 0\n": api.BadForm, "ask seat 3 0 0\n": api.BadForm, sealed("reply seat 3 0 0 no -"): api.BadForm,
		"state 4 0/0/0/0\n": api.Unknown, "state -1 0/0/0/0\n": api.Unknown, "state 999999999 0/0\n": api.Unknown, "state 4 5/5/5/5\n": api.Unknown, "state 0 -\n": api.BadCount, "state 0 0/0\n": api.BadCount, "state 0 0/0/0/0/0/0\n": api.BadCount, "state 0 9/9\n": api.BadCount, "state 0 5/0/0/0\n": api.OffLimits, "state 0 -1/0/0/0\n": api.OffLimits, "state 0 0/3/0/0\n": api.OffLimits, "state 0 0/0/0/3\n": api.OffLimits, "state 0 0/0/0/-1\n": api.OffLimits, "state 0 0/0/256/0\n": api.OffLimits,
	} {
		checkRead(t, fileOf(replaced(state, text)), fileLine{own + 1, want})
	}
	for text, want := range map[string]api.LineState{"state 3 4/2/1/1\n": stateOf(3, 4, 2, 1, 1), "state 0 0/0/0/0\n": stateOf(0, 0, 0, 0, 0), "state 1 2/1/3/2\n": stateOf(1, 2, 1, 3, 2)} {
		b, n, f := club.Read(fileOf(replaced(state, text)))
		if f != ok || n != 0 || !same(b, with(func(b *api.ClubBook) { b.State = want })) {
			t.Error(text, b.State, n, f)
		}
	}
	// The foul of a part before it comes first, and that of the State before those of parts after it.
	parts := replaced(state, "state 9 -\n")
	parts[state-1].text = strings.Replace(parts[state-1].text, "watch 10 50 3", "watch 10 9 3", 1)
	checkRead(t, fileOf(parts), fileLine{ownLine(parts, state-1), api.OutOfOrder})
	parts = replaced(state, "state 9 -\n")
	parts[state+1].text = "\n"
	checkRead(t, fileOf(parts), fileLine{own + 1, api.Unknown})
}

// P10.7: a file of which one byte is changed is not read.
func TestReadChangedByte(t *testing.T) {
	r := rand.New(rand.NewSource(1013))
	whole := []byte(fileOf(exampleParts()))
	for i, old := range whole {
		others := []byte{'\n', ' ', '0', '-', old ^ 1, byte(r.Intn(256))}
		for _, c := range others {
			if c == old {
				continue
			}
			whole[i] = c
			if b, _, f := club.Read(string(whole)); f == ok || !isZero(b) {
				t.Fatalf("%d %q %q", i, old, c)
			}
		}
		whole[i] = old
	}
}

// P1: any text is read, or has a foul.
func TestReadAnyText(t *testing.T) {
	r := rand.New(rand.NewSource(1014))
	whole := fileOf(exampleParts())
	for range 1500 {
		i, k := r.Intn(len(whole)+1), r.Intn(len(whole)+1)
		text := whole[:i] + pick(r, []string{"", "\n", " ", "part stock 0 0\n", "-1", "\xff\n", "999999999"}) + whole[k:]
		b, n, f := club.Read(text)
		if f != ok && !isZero(b) || f == ok && (n != 0 || text != whole && !same(b, exampleBook())) {
			t.Fatalf("%q %d %d", text, n, f)
		}
	}
}
