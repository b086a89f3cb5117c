package butt_test

import (
	"math/rand"
	"strings"
	"testing"

	"nock/api"
	"nock/butt"
)

const exampleText = "boss 20 1\nlayer 5 0 9 3\nlayer 12 12 0 0\nsession 8 4 0..2 0\nsession 6 6..7 0 0\nground\nstand s 70 122 2\nstand t 50 80 1\nstand u 70 80 1\narcher ann 122 60 90\narcher bob 80 40 60\narcher cid 80 50 50\narcher dot 122 70 70\narcher eve 122 70 90\n"

// P8.5: what is printed, byte for byte.
func TestPrint(t *testing.T) {
	few := api.ButtBoss{Layers: []api.ButtLayer{layer(0, 999, 10, 1)}}
	one := withBoss(func(b *api.ButtBoss) {
		b.Sessions, b.Limit, b.Swaps = []api.ButtSession{session(span(0, 999), only(999), only(0), span(998, 999))}, 9999, 4
	})
	for _, x := range []struct {
		b    api.ButtBoss
		g    api.ButtGround
		want string
	}{
		{exampleBoss(), exampleGround(), exampleText},
		{few, api.ButtGround{}, "boss 0 0\nlayer 0 999 10 1\nground\n"},
		{few, withGround(func(g *api.ButtGround) { g.Stands, g.Archers = nil, g.Archers[1:2] }), "boss 0 0\nlayer 0 999 10 1\nground\narcher bob 80 40 60\n"},
		{few, withGround(func(g *api.ButtGround) { g.Stands, g.Archers = g.Stands[1:2], nil }), "boss 0 0\nlayer 0 999 10 1\nground\nstand t 50 80 1\n"},
		{one, api.ButtGround{}, "boss 9999 4\nlayer 5 0 9 3\nlayer 12 12 0 0\nsession 0..999 999 0 998..999\nground\n"},
	} {
		if s, f := butt.Print(x.b, x.g); s != x.want || f != api.Fair {
			t.Error(s, f)
		}
		if b, g, n, f := butt.Parse(x.want); !sameBoss(b, x.b) || !sameGround(g, x.g) || n != 0 || f != api.Fair {
			t.Error(x.want, b, g, n, f)
		}
	}
}

// P8.5: the foul of what cannot be printed: that of the boss comes first.
func TestPrintFouls(t *testing.T) {
	wrongBoss := withBoss(func(b *api.ButtBoss) { b.Limit = -1 })
	wrongGround := withGround(func(g *api.ButtGround) { g.Archers[1].Name = "a b" })
	for _, x := range []struct {
		b    api.ButtBoss
		g    api.ButtGround
		want api.Foul
	}{
		{api.ButtBoss{}, api.ButtGround{}, api.BadCount},
		{wrongBoss, exampleGround(), api.OffLimits},
		{wrongBoss, wrongGround, api.OffLimits},
		{exampleBoss(), wrongGround, api.BadName},
		{exampleBoss(), withGround(func(g *api.ButtGround) { g.Stands[1].Name = "s" }), api.Twice},
		{exampleBoss(), withGround(func(g *api.ButtGround) { g.Archers[1].Near = 61 }), api.OutOfOrder},
	} {
		if s, f := butt.Print(x.b, x.g); s != "" || f != x.want {
			t.Error(x.want, s, f)
		}
	}
}

// P8.5: what is read, with the last line feed and without.
func TestParse(t *testing.T) {
	for _, text := range []string{exampleText, strings.TrimSuffix(exampleText, "\n")} {
		b, g, n, f := butt.Parse(text)
		if !sameBoss(b, exampleBoss()) || !sameGround(g, exampleGround()) || n != 0 || f != api.Fair {
			t.Error(b, g, n, f)
		}
	}
}

// P8.5: what is printed is parsed as it was, and printed again it is the same text.
func TestRoundTrip(t *testing.T) {
	r := rand.New(rand.NewSource(93))
	bosses, grounds := []api.ButtBoss{greatBoss()}, []api.ButtGround{greatGround()}
	for range 500 {
		bosses = append(bosses, randomBoss(r, pick(r, []scale{small, middle, great})))
		grounds = append(grounds, randomGround(r))
	}
	for i, b := range bosses {
		g := grounds[i]
		text, f := butt.Print(b, g)
		fair(t, f)
		again, same, n, f := butt.Parse(text)
		if !sameBoss(again, b) || !sameGround(same, g) || n != 0 || f != api.Fair {
			t.Fatal(b, g, text, again, same, n, f)
		}
		if s, f := butt.Print(again, same); s != text || f != api.Fair {
			t.Fatal(text, s, f)
		}
	}
}

type parsed struct {
	line int
	f    api.Foul
}

const (
	head     = "boss 9 0\n"
	layer1   = "layer 1 2 3 4\n"
	session1 = "session 1 2 3 4..5\n"
	ground1  = "ground\n"
	stand1   = "stand s 1 2 3\n"
	archer1  = "archer a 1 2 3\n"
	whole    = head + layer1 + session1 + ground1 + stand1 + archer1
)

func checkForms(t *testing.T, texts map[string]parsed) {
	t.Helper()
	for text, want := range texts {
		b, g, n, f := butt.Parse(text)
		if (parsed{n, f}) != want {
			t.Errorf("%q: %d %d", text, n, f)
		}
		if f != api.Fair && (!sameBoss(b, api.ButtBoss{}) || !sameGround(g, api.ButtGround{})) {
			t.Errorf("%q: %v %v", text, b, g)
		}
	}
}

// P8.5: which lines stand where.
func TestParseOrder(t *testing.T) {
	const short = head + layer1 + ground1
	checkForms(t, map[string]parsed{
		"":                                  {0, api.BadForm},
		"\n":                                {1, api.BadForm},
		"\n\n":                              {1, api.BadForm},
		" ":                                 {1, api.BadForm},
		"x":                                 {1, api.BadForm},
		"\n" + whole:                        {1, api.BadForm},
		head:                                {0, api.BadForm},
		head + layer1:                       {0, api.BadForm},
		head + layer1 + session1:            {0, api.BadForm},
		head + layer1 + "x\n":               {3, api.BadForm},
		head + layer1 + "\n":                {3, api.BadForm},
		head + ground1:                      {0, api.BadCount},
		head + session1 + ground1:           {0, api.BadCount},
		short:                               {0, api.Fair},
		head + layer1 + "ground":            {0, api.Fair},
		head + layer1 + session1 + "ground": {0, api.Fair},
		whole:                               {0, api.Fair},
		whole + "archer b 1 2 3":            {0, api.Fair},
		whole + "\n":                        {7, api.BadForm},
		whole + "x":                         {7, api.BadForm},
		whole + head:                        {7, api.BadForm},
		whole + layer1:                      {7, api.BadForm},
		whole + session1:                    {7, api.BadForm},
		whole + ground1:                     {7, api.BadForm},
		whole + stand1:                      {7, api.BadForm},
		short + stand1 + "stand t 1 2 3\n":  {0, api.Fair},
		short + archer1:                     {0, api.Fair},
		short + archer1 + stand1:            {5, api.BadForm},
		short + layer1:                      {4, api.BadForm},
		short + session1:                    {4, api.BadForm},
		short + ground1:                     {4, api.BadForm},
		short + head:                        {4, api.BadForm},
		short + "\n" + stand1:               {4, api.BadForm},
		short + stand1 + ground1:            {5, api.BadForm},
		short + stand1 + layer1:             {5, api.BadForm},
		short + archer1 + ground1:           {5, api.BadForm},
		head + head + layer1 + ground1:      {2, api.BadForm},
		head + layer1 + head + ground1:      {3, api.BadForm},
		head + layer1 + session1 + layer1:   {4, api.BadForm},
		head + layer1 + session1 + session1 + ground1: {0, api.Fair},
		head + layer1 + layer1 + ground1:              {0, api.Fair},
		head + layer1 + stand1 + ground1:              {3, api.BadForm},
		head + layer1 + archer1 + ground1:             {3, api.BadForm},
		head + stand1:                                 {2, api.BadForm},
		head + archer1:                                {2, api.BadForm},
		layer1 + head + ground1:                       {1, api.BadForm},
		ground1:                                       {1, api.BadForm},
		ground1 + head + layer1:                       {1, api.BadForm},
		session1:                                      {1, api.BadForm},
		stand1:                                        {1, api.BadForm},
		archer1:                                       {1, api.BadForm},
		head + "\n" + layer1 + ground1:                {2, api.BadForm},
		head + "x\nx\n" + ground1:                     {2, api.BadForm},
		head + layer1 + ground1 + "x\n" + "y":         {4, api.BadForm},
	})
}

// wholeWith returns the whole text with another line in place of one of its lines, and the number of that line.
func wholeWith(line string) (text string, number int) {
	word := strings.ToLower(strings.TrimRight(strings.FieldsFunc(line, func(c rune) bool { return c <= ' ' })[0], "s"))
	for i, old := range strings.SplitAfter(whole, "\n") {
		if strings.HasPrefix(old, word) {
			return strings.Replace(whole, old, line+"\n", 1), i + 1
		}
	}
	return whole + line + "\n", 7
}

// checkLines looks for the foul of each line in its place; with BadForm it is the first wrong one.
func checkLines(t *testing.T, lines map[string]api.Foul) {
	t.Helper()
	texts := make(map[string]parsed)
	for line, want := range lines {
		text, number := wholeWith(line)
		if want != api.BadForm {
			number = 0
		}
		texts[text] = parsed{number, want}
	}
	checkForms(t, texts)
}

// P8.5: the forms of the lines of a boss.
func TestParseBossForms(t *testing.T) {
	checkLines(t, map[string]api.Foul{
		"boss": api.BadForm, "boss ": api.BadForm, "boss 9": api.BadForm, "boss 9 ": api.BadForm, "boss 9 0": api.Fair, "boss 9 0 ": api.BadForm, "boss 9 0 0": api.BadForm, "boss  9 0": api.BadForm, "boss 9  0": api.BadForm, " boss 9 0": api.BadForm, "boss\t9 0": api.BadForm, "boss 9\t0": api.BadForm, "boss 9 0\r": api.BadForm,
		"bosss 9 0": api.BadForm, "Boss 9 0": api.BadForm, "boss x 0": api.BadForm, "boss 9 x": api.BadForm, "boss 09 0": api.BadForm, "boss 9 00": api.BadForm, "boss +9 0": api.BadForm, "boss 9 -0": api.BadForm, "boss 9 -": api.BadForm, "boss 9 --1": api.BadForm, "boss 9 0..1": api.BadForm, "boss 9/9 0": api.BadForm, "boss 1_0 0": api.BadForm, "boss 0x9 0": api.BadForm, "boss 9.0 0": api.BadForm,
		"boss 9999 4": api.Fair, "boss 0 0": api.Fair, "boss 10000 0": api.OffLimits, "boss 9 5": api.OffLimits, "boss -1 0": api.OffLimits, "boss 9 -1": api.OffLimits, "boss 999999999 0": api.OffLimits, "boss -999999999 0": api.OffLimits, "boss 1000000000 0": api.BadForm, "boss -1000000000 0": api.BadForm, "boss 9 99999999999999999999": api.BadForm,
		"layer": api.BadForm, "layer 1 2 3": api.BadForm, "layer 1 2 3 ": api.BadForm, "layer 1 2 3 4": api.Fair, "layer 1 2 3 4 ": api.BadForm, "layer 1 2 3 4 5": api.BadForm, "layer 1  2 3 4": api.BadForm, "layer 1 2 3 4..5": api.BadForm, "layer 1..2 2 3 4": api.BadForm, "layer 1/2/3/4": api.BadForm, "layer 1 2 3 -": api.BadForm, "layer 1 2 x 4": api.BadForm, "layer 01 2 3 4": api.BadForm, "layer 1 2 3 -0": api.BadForm, "layers 1 2 3 4": api.BadForm, "Layer 1 2 3 4": api.BadForm,
		"layer 0 0 0 999": api.Fair, "layer 0 0 0 1000": api.OffLimits, "layer -1 0 0 0": api.OffLimits, "layer 0 0 999999999 0": api.OffLimits, "layer 0 0 1000000000 0": api.BadForm,
		"session": api.BadForm, "session 1 2 3": api.BadForm, "session 1 2 3 ": api.BadForm, "session 1 2 3 4": api.Fair, "session 1 2 3 4 ": api.BadForm, "session 1 2 3 4 5": api.BadForm, "session 1 2  3 4": api.BadForm, "session 0..1 0..999 998..999 0": api.Fair, "session 1..1 2 3 4": api.BadForm, "session 1 2 3 0..0": api.BadForm, "session 2..1 2 3 4": api.OffLimits, "session 1 2 3 5..3": api.OffLimits, "session 1.2 2 3 4": api.BadForm, "session 1...2 2 3 4": api.BadForm, "session 1.. 2 3 4": api.BadForm, "session ..1 2 3 4": api.BadForm, "session .. 2 3 4": api.BadForm, "session 1..2..3 2 3 4": api.BadForm, "session 01..2 2 3 4": api.BadForm, "session 1..02 2 3 4": api.BadForm, "session 1..+2 2 3 4": api.BadForm, "session -0..2 2 3 4": api.BadForm, "session 1..x 2 3 4": api.BadForm, "session x..1 2 3 4": api.BadForm, "session 1/2 2 3 4": api.BadForm, "session - 2 3 4": api.BadForm,
		"session 0..1000 2 3 4": api.OffLimits, "session -1 2 3 4": api.OffLimits, "session -2..-1 2 3 4": api.OffLimits, "session -1..5 2 3 4": api.OffLimits, "session 1 2 3 0..999999999": api.OffLimits, "session 1 2 3 0..1000000000": api.BadForm, "session 1 2 3 1000000000..0": api.BadForm, "sessions 1 2 3 4": api.BadForm,
	})
}

// P8.5: the forms of the lines of a ground.
func TestParseGroundForms(t *testing.T) {
	checkLines(t, map[string]api.Foul{
		"ground": api.Fair, "ground ": api.BadForm, " ground": api.BadForm, "ground 0": api.BadForm, "ground -": api.BadForm, "ground\r": api.BadForm, "grounds": api.BadForm, "Ground": api.BadForm, "ground ground": api.BadForm,
		"stand": api.BadForm, "stand s": api.BadForm, "stand s 1": api.BadForm, "stand s 1 2": api.BadForm, "stand s 1 2 ": api.BadForm, "stand s 1 2 3": api.Fair, "stand s 1 2 3 ": api.BadForm, "stand s 1 2 3 4": api.BadForm, "stand  s 1 2 3": api.BadForm, "stand s  1 2 3": api.BadForm, "stand  1 2 3": api.BadForm, "stand 1 2 3": api.BadForm, "stand s x 2 3": api.BadForm, "stand s 1 x 3": api.BadForm, "stand s 1 2 x": api.BadForm, "stand s 1..2 2 3": api.BadForm, "stand s 01 2 3": api.BadForm, "stand s 1 2 -0": api.BadForm, "stand s 1 2 -": api.BadForm, "stand s 1/2 3": api.BadForm, "stands s 1 2 3": api.BadForm, "Stand s 1 2 3": api.BadForm,
		"stand s 90 150 4": api.Fair, "stand s 1 1 0": api.Fair, "stand s 0 2 3": api.OffLimits, "stand s 91 2 3": api.OffLimits, "stand s 1 0 3": api.OffLimits, "stand s 1 151 3": api.OffLimits, "stand s 1 2 5": api.OffLimits, "stand s 1 2 -1": api.OffLimits, "stand s 1000000000 2 3": api.BadForm, "stand s 999999999 2 3": api.OffLimits,
		"stand S 1 2 3": api.BadName, "stand 1 1 2 3": api.BadName, "stand - 1 2 3": api.BadName, "stand ä 1 2 3": api.BadName, "stand s\r 1 2 3": api.BadName, "stand s\t1 2 3": api.BadForm, "stand a/b 1 2 3": api.BadName, "stand abcdefghij01 1 2 3": api.Fair, "stand abcdefghij012 1 2 3": api.BadName, "stand stand 1 2 3": api.Fair, "stand ground 1 2 3": api.Fair, "stand \xff 1 2 3": api.BadName, "stand s\x00 1 2 3": api.BadName,
		"archer": api.BadForm, "archer a": api.BadForm, "archer a 1": api.BadForm, "archer a 1 2": api.BadForm, "archer a 1 2 ": api.BadForm, "archer a 1 2 3": api.Fair, "archer a 1 2 3 ": api.BadForm, "archer a 1 2 3 4": api.BadForm, "archer  a 1 2 3": api.BadForm, "archer a  1 2 3": api.BadForm, "archer 1 2 3": api.BadForm, "archer a x 2 3": api.BadForm, "archer a 1 x 3": api.BadForm, "archer a 1 2 x": api.BadForm, "archer a 1 2..3": api.BadForm, "archer a 1 2 03": api.BadForm, "archer a 1 2 -": api.BadForm, "archers a 1 2 3": api.BadForm, "Archer a 1 2 3": api.BadForm,
		"archer a 150 1 90": api.Fair, "archer a 1 1 1": api.Fair, "archer a 0 2 3": api.OffLimits, "archer a 151 2 3": api.OffLimits, "archer a 1 0 3": api.OffLimits, "archer a 1 2 91": api.OffLimits, "archer a 1 3 2": api.OutOfOrder, "archer a 1 91 2": api.OffLimits, "archer a 1 2 1000000000": api.BadForm,
		"archer A 1 2 3": api.BadName, "archer 1 1 2 3": api.BadName, "archer - 1 2 3": api.BadName, "archer s 1 2 3": api.Fair, "archer archer 1 2 3": api.Fair,
	})
	checkForms(t, map[string]parsed{
		whole + archer1:                           {0, api.Twice},
		whole + "archer A 1 2 3\n":                {0, api.BadName},
		whole + "archer A 1 2\n":                  {7, api.BadForm},
		head + layer1 + ground1 + stand1 + stand1: {0, api.Twice},
		// All lines are looked at before the fouls of the boss, and these come before those of the ground.
		"boss -1 0\n" + layer1 + ground1 + "stand S 1 2 3\n":  {0, api.OffLimits},
		"boss -1 0\n" + layer1 + ground1 + "stand S 1 2\n":    {4, api.BadForm},
		"boss -1 0\n" + ground1 + "stand S 1 2 3\n":           {0, api.BadCount},
		head + layer1 + ground1 + "stand S 1 2 3\n" + archer1: {0, api.BadName},
	})
}

// P8.5: a text may have just MaxText bytes.
func TestParseLongTexts(t *testing.T) {
	for bytes, want := range map[int]parsed{api.MaxText: {1, api.BadForm}, api.MaxText + 1: {0, api.BadCount}} {
		for _, letter := range []string{"b", "\n", " ", "/", "ä"} {
			text := strings.Repeat(letter, bytes)[:bytes]
			if b, g, n, f := butt.Parse(text); (parsed{n, f}) != want || !sameBoss(b, api.ButtBoss{}) || !sameGround(g, api.ButtGround{}) {
				t.Error(bytes, n, f)
			}
		}
	}
	// Very many layers, sessions, stands, archers or letters of a name have their form.
	for _, x := range []struct {
		before, part, after string
		want                api.Foul
	}{
		{head, layer1, ground1, api.BadCount},
		{head + layer1, session1, ground1, api.BadCount},
		{head + layer1 + ground1, stand1, archer1, api.BadCount},
		{whole, archer1, "", api.BadCount},
		{head + layer1 + ground1 + "stand ", "s", " 1 2 3\n", api.BadName},
	} {
		many := (api.MaxText - len(x.before) - len(x.after)) / len(x.part)
		text := x.before + strings.Repeat(x.part, many) + x.after
		if b, g, n, f := butt.Parse(text); n != 0 || f != x.want || !sameBoss(b, api.ButtBoss{}) || !sameGround(g, api.ButtGround{}) {
			t.Error(x.part, n, f)
		}
		text += strings.Repeat("x", api.MaxText+1-len(text))
		if b, g, n, f := butt.Parse(text); n != 0 || f != api.BadCount || !sameBoss(b, api.ButtBoss{}) || !sameGround(g, api.ButtGround{}) {
			t.Error(x.part, n, f)
		}
	}
}
