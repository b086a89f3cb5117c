package round_test

import (
	"math/rand"
	"slices"
	"strings"
	"testing"

	"nock/api"
	"nock/round"
)

const exampleText = "leg 70 1 3 11\nleg 50 2 2 10\narcher ann 0 in 10/9/11/10/8\narcher ben 0 in 11/11/7/9\narcher cam 0 in 9/9/9/9/9/9/9\noff 9 4\narcher dot 1 in 10\narcher eve 0 in 9/9/9/9/9/9/9\noff 9 2\noff 10 1\n"

// P4.5: what is printed, byte for byte, and the fouls.
func TestPrint(t *testing.T) {
	for want, r := range map[string]api.Round{
		exampleText:       example(),
		"leg 18 1 2 10\n": short(2, 10),
		"leg 18 1 2 10\narcher a 0 in -\narcher b 0 in 0/10\n": short(2, 10, nil, list(0, 10)),
		"leg 18 1 1 11\narcher a 3 out -\narcher b 0 in 11\noff 0 999\n": {
			Legs: []api.RoundLeg{leg(18, 1, 1, 11)},
			Archers: []api.RoundArcher{
				{Name: "a", Class: 3, Out: true},
				{Name: "b", Arrows: list(11), Offs: []api.RoundOff{off(0, 999)}},
			},
		},
	} {
		if s, f := round.Print(r); s != want || f != api.Fair {
			t.Error(s, f)
		}
	}
	if s, f := round.Print(api.Round{}); s != "" || f != api.BadCount {
		t.Error(s, f)
	}
	if s, f := round.Print(with(func(r *api.Round) { r.Archers[eve].Offs[1].Far = -1 })); s != "" || f != api.OffLimits {
		t.Error(s, f)
	}
}

// P4.5: what is read, with the last line feed and without.
func TestParse(t *testing.T) {
	for _, text := range []string{exampleText, strings.TrimSuffix(exampleText, "\n")} {
		if r, line, f := round.Parse(text); !sameRound(r, example()) || line != 0 || f != api.Fair {
			t.Error(r, line, f)
		}
	}
	want := short(1, 9, nil, list(9), list(0))
	want.Archers[0].Out, want.Archers[1].Class, want.Archers[2].Class = true, 2, 3
	want.Archers[1].Offs = []api.RoundOff{off(11, 0), off(0, 999)}
	if r, line, f := round.Parse("leg 18 1 1 9\narcher a 0 out -\narcher b 2 in 9\noff 11 0\noff 0 999\narcher c 3 in 0"); !sameRound(r, want) || line != 0 || f != api.Fair {
		t.Error(r, line, f)
	}
}

// P4.5: what is printed is parsed as it was, and printed again it is the same text.
func TestRoundTrip(t *testing.T) {
	r := rand.New(rand.NewSource(41))
	full := great()
	for i := range full.Archers {
		full.Archers[i].Arrows = slices.Repeat(list(11), 60)
		full.Archers[i].Offs = slices.Repeat([]api.RoundOff{off(11, 999)}, 3)
	}
	rounds := []api.Round{great(), full}
	for range 500 {
		rounds = append(rounds, randomRound(r, 6, 4))
	}
	for _, o := range rounds {
		text, f := round.Print(o)
		fair(t, f)
		p, line, f := round.Parse(text)
		if !sameRound(p, o) || line != 0 || f != api.Fair {
			t.Fatal(o, text, p, line, f)
		}
		if again, f := round.Print(p); again != text || f != api.Fair {
			t.Fatal(text, again, f)
		}
	}
}

type parsed struct {
	line int
	f    api.Foul
}

const (
	leg0   = "leg 18 1 2 10\n"
	in     = "archer a 0 in 9/10\n"
	second = "archer b 0 out 9\n"
	off0   = "off 9 1\n"
)

func checkForms(t *testing.T, texts map[string]parsed) {
	t.Helper()
	for text, want := range texts {
		r, line, f := round.Parse(text)
		if (parsed{line, f}) != want {
			t.Errorf("%q: %d %d", text, line, f)
		}
		if f != api.Fair && !sameRound(r, api.Round{}) {
			t.Errorf("%q: %v", text, r)
		}
	}
}

// P4.5: which lines stand where, and the fouls of a round after all lines.
func TestParseOrder(t *testing.T) {
	checkForms(t, map[string]parsed{
		"":                                    {0, api.BadCount},
		"\n":                                  {1, api.BadForm},
		"\n\n":                                {1, api.BadForm},
		" ":                                   {1, api.BadForm},
		"x":                                   {1, api.BadForm},
		leg0:                                  {0, api.Fair},
		leg0 + "\n":                           {2, api.BadForm},
		"\n" + leg0:                           {1, api.BadForm},
		leg0 + leg0:                           {0, api.Fair},
		strings.Repeat(leg0, 4):               {0, api.Fair},
		strings.Repeat(leg0, 5):               {0, api.BadCount},
		strings.Repeat(leg0, 5) + "x":         {6, api.BadForm},
		leg0 + in:                             {0, api.Fair},
		leg0 + in + second:                    {0, api.Fair},
		leg0 + in + off0:                      {0, api.Fair},
		leg0 + in + off0 + second:             {0, api.Fair},
		leg0 + in + off0 + off0 + off0:        {0, api.Fair},
		leg0 + in + strings.Repeat(off0, 4):   {0, api.BadCount},
		leg0 + in + off0 + "\n" + off0:        {4, api.BadForm},
		leg0 + in + second + off0:             {0, api.OutOfOrder},
		leg0 + leg0 + in + off0:               {0, api.OutOfOrder},
		leg0 + in + in:                        {0, api.Twice},
		leg0 + in + in + "\n":                 {4, api.BadForm},
		in:                                    {0, api.BadCount},
		in + off0:                             {0, api.BadCount},
		in + leg0:                             {2, api.BadForm},
		off0:                                  {1, api.BadForm},
		off0 + leg0:                           {1, api.BadForm},
		leg0 + off0:                           {2, api.BadForm},
		leg0 + off0 + in:                      {2, api.BadForm},
		leg0 + in + leg0:                      {3, api.BadForm},
		leg0 + in + off0 + leg0:               {4, api.BadForm},
		leg0 + in + leg0 + "nothing\n":        {3, api.BadForm},
		leg0 + in + "nothing\n" + leg0:        {3, api.BadForm},
		"leg 0 1 2 10\n":                      {0, api.OffLimits},
		"leg 0 1 2 10\nx":                     {2, api.BadForm},
		"leg 91 1 2 10\n":                     {0, api.OffLimits},
		"leg 18 13 2 10\n":                    {0, api.OffLimits},
		"leg 18 1 7 10\n":                     {0, api.OffLimits},
		"leg 18 1 2 12\n":                     {0, api.OffLimits},
		"leg -18 -1 -2 -10\n":                 {0, api.OffLimits},
		"leg 18 12 6 10\n":                    {0, api.BadCount},
		"leg 18 12 5 11\n":                    {0, api.Fair},
		leg0 + "archer a 4 in 9/10\n":         {0, api.OffLimits},
		leg0 + "archer a -1 in 9/10\n":        {0, api.OffLimits},
		leg0 + in + "off 12 1\n":              {0, api.OffLimits},
		leg0 + in + "off 11 999\n":            {0, api.Fair},
		leg0 + in + "off 9 1000\n":            {0, api.OffLimits},
		leg0 + in + "off 9 -1\n":              {0, api.OffLimits},
		leg0 + "archer a 0 out 9/10\n" + off0: {0, api.OutOfOrder},
	})
}

// P4.5: the forms of words, numbers and blanks.
func TestParseForms(t *testing.T) {
	checkForms(t, map[string]parsed{
		"leg\n":                            {1, api.BadForm},
		"leg 18 1 2\n":                     {1, api.BadForm},
		"leg 18 1 2 10 1\n":                {1, api.BadForm},
		"leg 18 1 2 10 \n":                 {1, api.BadForm},
		" leg 18 1 2 10\n":                 {1, api.BadForm},
		"leg  18 1 2 10\n":                 {1, api.BadForm},
		"leg 18 1\t2 10\n":                 {1, api.BadForm},
		"leg 18 1 2 10\r\n":                {1, api.BadForm},
		"Leg 18 1 2 10\n":                  {1, api.BadForm},
		"legs 18 1 2 10\n":                 {1, api.BadForm},
		"leg x 1 2 10\n":                   {1, api.BadForm},
		"leg 18 x 2 10\n":                  {1, api.BadForm},
		"leg 18 1 x 10\n":                  {1, api.BadForm},
		"leg 18 1 2 x\n":                   {1, api.BadForm},
		"leg 18 1 2 -\n":                   {1, api.BadForm},
		"leg 18 1 2 9/10\n":                {1, api.BadForm},
		"leg 18 1 2 9..10\n":               {1, api.BadForm},
		"leg 18 1 2 +9\n":                  {1, api.BadForm},
		"leg 18 1 2 09\n":                  {1, api.BadForm},
		"leg 18 1 2 -0\n":                  {1, api.BadForm},
		"leg 18 1 2 00\n":                  {1, api.BadForm},
		"leg 18 1 2 --9\n":                 {1, api.BadForm},
		"leg 18 1 2 0x9\n":                 {1, api.BadForm},
		"leg 18 1 2 1_0\n":                 {1, api.BadForm},
		"leg 18 1 2 9.0\n":                 {1, api.BadForm},
		"leg 18 1 2 0\n":                   {0, api.OffLimits},
		"leg 18 1 2 999999999\n":           {0, api.OffLimits},
		"leg 18 1 2 -999999999\n":          {0, api.OffLimits},
		"leg 18 1 2 1000000000\n":          {1, api.BadForm},
		"leg 18 1 2 -1000000000\n":         {1, api.BadForm},
		"leg 18 1 2 99999999999999999999":  {1, api.BadForm},
		leg0 + "archer\n":                  {2, api.BadForm},
		leg0 + "archer a\n":                {2, api.BadForm},
		leg0 + "archer a 0\n":              {2, api.BadForm},
		leg0 + "archer a 0 in\n":           {2, api.BadForm},
		leg0 + "archer a 0 in - -\n":       {2, api.BadForm},
		leg0 + "archer a 0 -\n":            {2, api.BadForm},
		leg0 + "archer a in -\n":           {2, api.BadForm},
		leg0 + "archer a 0 on -\n":         {2, api.BadForm},
		leg0 + "archer a 0 In -\n":         {2, api.BadForm},
		leg0 + "archer a 0 outs -\n":       {2, api.BadForm},
		leg0 + "archer a 0 inout -\n":      {2, api.BadForm},
		leg0 + "archer a x in -\n":         {2, api.BadForm},
		leg0 + "archer  0 in -\n":          {2, api.BadForm},
		leg0 + "archer a 0 in  -\n":        {2, api.BadForm},
		leg0 + "archer a 0  in -\n":        {2, api.BadForm},
		leg0 + "archer a 0 in - \n":        {2, api.BadForm},
		leg0 + " archer a 0 in -\n":        {2, api.BadForm},
		leg0 + "archers a 0 in -\n":        {2, api.BadForm},
		leg0 + "archer a 0 in -\n":         {0, api.Fair},
		leg0 + "archer a 0 out -":          {0, api.Fair},
		leg0 + "archer A 0 in -\n":         {0, api.BadName},
		leg0 + "archer A 0 in -\n\n":       {3, api.BadForm},
		leg0 + "archer - 0 in -\n":         {0, api.BadName},
		leg0 + "archer 1 0 in -\n":         {0, api.BadName},
		leg0 + "archer \xff 0 in -\n":      {0, api.BadName},
		leg0 + "archer a\t 0 in -\n":       {0, api.BadName},
		leg0 + in + "off\n":                {3, api.BadForm},
		leg0 + in + "off 9\n":              {3, api.BadForm},
		leg0 + in + "off 9 1 1\n":          {3, api.BadForm},
		leg0 + in + "off 9 x\n":            {3, api.BadForm},
		leg0 + in + "off x 1\n":            {3, api.BadForm},
		leg0 + in + "off 9/1\n":            {3, api.BadForm},
		leg0 + in + "off 9 1/2\n":          {3, api.BadForm},
		leg0 + in + "off 9  1\n":           {3, api.BadForm},
		leg0 + in + "off 9 1 \n":           {3, api.BadForm},
		leg0 + in + "offs 9 1\n":           {3, api.BadForm},
		leg0 + in + "Off 9 1\n":            {3, api.BadForm},
		leg0 + in + "\x00\n":               {3, api.BadForm},
		leg0 + "archer a 0 in 9/10" + off0: {2, api.BadForm},
	})
}

// P4.5: the forms of the list of arrows, and its fouls after all lines.
func TestParseLists(t *testing.T) {
	texts := make(map[string]parsed)
	for arrows, want := range map[string]api.Foul{
		"-":           api.Fair,
		"0":           api.Fair,
		"9":           api.Fair,
		"9/10":        api.Fair,
		"10/0":        api.Fair,
		"9/11":        api.OffLimits,
		"11":          api.OffLimits,
		"-1":          api.OffLimits,
		"9/-1":        api.OffLimits,
		"999999999":   api.OffLimits,
		"1000000000":  api.BadForm,
		"9/9/9":       api.BadCount,
		"99/99/99":    api.BadCount,
		"/":           api.BadForm,
		"9/":          api.BadForm,
		"/9":          api.BadForm,
		"9//9":        api.BadForm,
		"9/-":         api.BadForm,
		"-/9":         api.BadForm,
		"-/-":         api.BadForm,
		"--":          api.BadForm,
		"9 9":         api.BadForm,
		"9/ 9":        api.BadForm,
		"9,9":         api.BadForm,
		"9/09":        api.BadForm,
		"-0/9":        api.BadForm,
		"+9/9":        api.BadForm,
		"9..10":       api.BadForm,
		"9/x":         api.BadForm,
		"9/10\x00":    api.BadForm,
		"9/10/":       api.BadForm,
		"9/9/9/9/9/x": api.BadForm,
	} {
		line := 0
		if want == api.BadForm {
			line = 3
		}
		texts[leg0+second+"archer a 0 in "+arrows+"\narcher c 1 in -\n"] = parsed{line, want}
	}
	checkForms(t, texts)
}

// P4.5: a text may have just MaxText bytes.
func TestParseLongTexts(t *testing.T) {
	for bytes, want := range map[int]parsed{api.MaxText: {1, api.BadForm}, api.MaxText + 1: {0, api.BadCount}} {
		for _, letter := range []string{"l", "\n", " ", "/", "ä"} {
			text := strings.Repeat(letter, bytes)[:bytes]
			if r, line, f := round.Parse(text); (parsed{line, f}) != want || !sameRound(r, api.Round{}) {
				t.Error(bytes, line, f)
			}
		}
	}
	// Very many legs, archers, arrows or shoot-offs have their form.
	for _, x := range []struct{ before, part string }{{"", leg0}, {leg0, in}, {leg0 + "archer a 0 in 1", "/1"}, {leg0 + in, off0}} {
		text := x.before + strings.Repeat(x.part, (api.MaxText-len(x.before))/len(x.part))
		want := api.BadCount
		if r, line, f := round.Parse(text); line != 0 || f != want || !sameRound(r, api.Round{}) {
			t.Error(x, line, f)
		}
		wrong := text[:len(text)-2] + "x"
		if _, line, f := round.Parse(wrong); line != strings.Count(wrong, "\n")+1 || f != api.BadForm {
			t.Error(x, line, f)
		}
	}
}
