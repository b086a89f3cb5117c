package bracket_test

import (
	"math/rand"
	"slices"
	"strings"
	"testing"

	"nock/api"
	"nock/bracket"
)

const exampleText = "bracket 5\nseed ana\nseed ben\nseed cem\nseed dia\nseed eva\nmatch 6 0 2 28/27/26/26/25/28/29/28/27/26 -\nmatch 1 3 4 20/21/20/21/20/21 -\n"

// P5.6: what is printed, byte for byte, and the fouls.
func TestPrint(t *testing.T) {
	off := plain(2)
	off.Sets = 1
	off.Results = []api.BracketResult{{Match: 0, One: 0, Two: 1, Sets: pairs(60, 60), Offs: pairs(0, 0, 999, 7)}}
	for want, b := range map[string]api.BracketBook{
		exampleText:                   example(),
		"bracket 3\nseed a\nseed b\n": plain(2),
		"bracket 1\nseed a\nseed b\nmatch 0 0 1 60/60 0/0/999/7\n": off,
		// Results that do not fit are printed as well.
		"bracket 3\nseed a\nseed b\nmatch 0 0 1 9/8/9/8 -\nmatch 0 0 1 8/9/8/9 -\n": plain(2, told{0, 0, 1, 0}, told{0, 0, 1, 1}),
	} {
		if s, f := bracket.Print(b); s != want || f != api.Fair {
			t.Error(s, f)
		}
	}
	if s, f := bracket.Print(api.BracketBook{}); s != "" || f != api.OffLimits {
		t.Error(s, f)
	}
	if s, f := bracket.Print(with(func(b *api.BracketBook) { b.Results[1].Sets = nil })); s != "" || f != api.NotEnough {
		t.Error(s, f)
	}
}

// P5.6: what is read, with the last line feed and without.
func TestParse(t *testing.T) {
	for _, text := range []string{exampleText, strings.TrimSuffix(exampleText, "\n")} {
		if b, line, f := bracket.Parse(text); !sameBook(b, example()) || line != 0 || f != api.Fair {
			t.Error(b, line, f)
		}
	}
	want := plain(3)
	want.Sets = 2
	want.Results = []api.BracketResult{
		{Match: 1, One: 1, Two: 2, Sets: pairs(1, 2, 4, 3), Offs: pairs(5, 5, 7, 6)},
		{Match: 2, One: 0, Two: 2, Sets: pairs(10, 0, 0, 0)},
	}
	if b, line, f := bracket.Parse("bracket 2\nseed a\nseed b\nseed c\nmatch 1 1 2 1/2/4/3 5/5/7/6\nmatch 2 0 2 10/0/0/0 -"); !sameBook(b, want) || line != 0 || f != api.Fair {
		t.Error(b, line, f)
	}
}

// P5.6: what is printed is parsed as it was, and printed again it is the same text.
func TestRoundTrip(t *testing.T) {
	r := rand.New(rand.NewSource(61))
	books := []api.BracketBook{great(), example()}
	for range 500 {
		books = append(books, randomBook(r, 8))
	}
	for _, b := range books {
		text, f := bracket.Print(b)
		fair(t, f)
		p, line, f := bracket.Parse(text)
		if !sameBook(p, b) || line != 0 || f != api.Fair {
			t.Fatal(b, text, p, line, f)
		}
		if again, f := bracket.Print(p); again != text || f != api.Fair {
			t.Fatal(text, again, f)
		}
	}
}

type parsed struct {
	line int
	f    api.Foul
}

const (
	sets  = "bracket 1\n"
	seeds = "seed a\nseed b\n"
	head  = sets + seeds
	match = "match 0 0 1 9/8 -\n"
)

func checkForms(t *testing.T, texts map[string]parsed) {
	t.Helper()
	for text, want := range texts {
		b, line, f := bracket.Parse(text)
		if (parsed{line, f}) != want {
			t.Errorf("%q: %d %d", text, line, f)
		}
		if f != api.Fair && !sameBook(b, api.BracketBook{}) {
			t.Errorf("%q: %v", text, b)
		}
	}
}

// P5.6: which lines stand where, and the fouls of a bracket after all lines.
func TestParseOrder(t *testing.T) {
	checkForms(t, map[string]parsed{
		"":                                      {0, api.BadForm},
		"\n":                                    {1, api.BadForm},
		"\n\n":                                  {1, api.BadForm},
		" ":                                     {1, api.BadForm},
		"x":                                     {1, api.BadForm},
		sets:                                    {0, api.BadCount},
		"bracket 1":                             {0, api.BadCount},
		sets + "\n":                             {2, api.BadForm},
		"\n" + sets:                             {1, api.BadForm},
		sets + sets:                             {2, api.BadForm},
		sets + "seed a\n":                       {0, api.BadCount},
		head:                                    {0, api.Fair},
		head + sets:                             {4, api.BadForm},
		head + match + sets:                     {5, api.BadForm},
		head + match:                            {0, api.Fair},
		head + match + "\n":                     {5, api.BadForm},
		head + "\n" + match:                     {4, api.BadForm},
		head + match + match:                    {0, api.Fair},
		head + strings.Repeat(match, 8):         {0, api.Fair},
		head + strings.Repeat(match, 9):         {0, api.BadCount},
		head + strings.Repeat(match, 9) + "x":   {13, api.BadForm},
		head + match + "seed c\n":               {5, api.BadForm},
		sets + "seed a\n" + match + "seed b\n":  {4, api.BadForm},
		sets + match:                            {0, api.BadCount},
		sets + match + seeds:                    {3, api.BadForm},
		seeds:                                   {1, api.BadForm},
		seeds + sets:                            {1, api.BadForm},
		match:                                   {1, api.BadForm},
		match + head:                            {1, api.BadForm},
		head + "nothing\n" + match:              {4, api.BadForm},
		head + match + "seed c\nnothing\n":      {5, api.BadForm},
		sets + strings.Repeat("seed a\n", 9):    {0, api.BadCount},
		head + "seed a\n":                       {0, api.Twice},
		head + "seed a\n\n":                     {5, api.BadForm},
		head + "seed A\n":                       {0, api.BadName},
		"bracket 0\n" + seeds:                   {0, api.OffLimits},
		"bracket 0\nbracket 1\n" + seeds:        {2, api.BadForm},
		"bracket 6\n" + seeds:                   {0, api.OffLimits},
		"bracket -1\n" + seeds:                  {0, api.OffLimits},
		"bracket 0\n" + seeds + "x":             {4, api.BadForm},
		head + "match 1 0 1 9/8 -\n":            {0, api.Unknown},
		head + "match -1 0 1 9/8 -\n":           {0, api.Unknown},
		head + "match 0 0 2 9/8 -\n":            {0, api.Unknown},
		head + "match 0 1 0 9/8 -\n":            {0, api.Against},
		head + "match 0 0 1 61/8 -\n":           {0, api.OffLimits},
		head + "match 0 0 1 -1/8 -\n":           {0, api.OffLimits},
		head + "match 0 0 1 9/8/9/8 -\n":        {0, api.BadCount},
		head + "match 0 0 1 9/8 1/2\n":          {0, api.Against},
		head + "match 0 0 1 9/9 1/2\n":          {0, api.Fair},
		head + "match 0 0 1 9/9 1/1/2/1\n":      {0, api.Fair},
		head + "match 0 0 1 9/9 1000/1\n":       {0, api.OffLimits},
		head + "match 0 0 1 9/9 -\n":            {0, api.NotEnough},
		head + "match 0 0 1 - -\n":              {0, api.NotEnough},
		head + "match 0 0 1 - 1/2\n":            {0, api.Against},
		head + match + "match 0 0 1 8/9 -\n":    {0, api.Fair}, // they do not fit, which is no foul
		head + "match 0 0 1 - -\n" + "seed c\n": {5, api.BadForm},
	})
}

// P5.6: the forms of words, numbers and blanks.
func TestParseForms(t *testing.T) {
	checkForms(t, map[string]parsed{
		"bracket\n":                           {1, api.BadForm},
		"bracket \n":                          {1, api.BadForm},
		"bracket 1 2\n" + seeds:               {1, api.BadForm},
		"bracket 1 \n" + seeds:                {1, api.BadForm},
		" bracket 1\n" + seeds:                {1, api.BadForm},
		"bracket  1\n" + seeds:                {1, api.BadForm},
		"bracket\t1\n" + seeds:                {1, api.BadForm},
		"bracket 1\r\n" + seeds:               {1, api.BadForm},
		"Bracket 1\n" + seeds:                 {1, api.BadForm},
		"brackets 1\n" + seeds:                {1, api.BadForm},
		"bracket x\n" + seeds:                 {1, api.BadForm},
		"bracket -\n" + seeds:                 {1, api.BadForm},
		"bracket 1/2\n" + seeds:               {1, api.BadForm},
		"bracket 1..2\n" + seeds:              {1, api.BadForm},
		"bracket +1\n" + seeds:                {1, api.BadForm},
		"bracket 01\n" + seeds:                {1, api.BadForm},
		"bracket -0\n" + seeds:                {1, api.BadForm},
		"bracket 00\n" + seeds:                {1, api.BadForm},
		"bracket --1\n" + seeds:               {1, api.BadForm},
		"bracket 0x1\n" + seeds:               {1, api.BadForm},
		"bracket 1_0\n" + seeds:               {1, api.BadForm},
		"bracket 1.0\n" + seeds:               {1, api.BadForm},
		"bracket 999999999\n" + seeds:         {0, api.OffLimits},
		"bracket -999999999\n" + seeds:        {0, api.OffLimits},
		"bracket 1000000000\n" + seeds:        {1, api.BadForm},
		"bracket -1000000000\n" + seeds:       {1, api.BadForm},
		"bracket 99999999999999999999\n":      {1, api.BadForm},
		sets + "seed\n":                       {2, api.BadForm},
		sets + "seed \n":                      {2, api.BadForm},
		sets + "seed a b\n":                   {2, api.BadForm},
		sets + "seed  a\n":                    {2, api.BadForm},
		sets + "seed a \n":                    {2, api.BadForm},
		sets + " seed a\n":                    {2, api.BadForm},
		sets + "seeds a\n":                    {2, api.BadForm},
		sets + "Seed a\n":                     {2, api.BadForm},
		head + "seed -\n":                     {0, api.BadName},
		head + "seed 1\n":                     {0, api.BadName},
		head + "seed c\t\n":                   {0, api.BadName},
		head + "seed \xff\n":                  {0, api.BadName},
		head + "seed \xff\n ":                 {5, api.BadForm},
		head + "seed c":                       {0, api.Fair},
		head + "match\n":                      {4, api.BadForm},
		head + "match 0\n":                    {4, api.BadForm},
		head + "match 0 0\n":                  {4, api.BadForm},
		head + "match 0 0 1\n":                {4, api.BadForm},
		head + "match 0 0 1 9/8\n":            {4, api.BadForm},
		head + "match 0 0 1 9/8 - -\n":        {4, api.BadForm},
		head + "match 0 0 1 9/8 - \n":         {4, api.BadForm},
		head + "match 0 0 1 9/8  -\n":         {4, api.BadForm},
		head + "match 0 0  1 9/8 -\n":         {4, api.BadForm},
		head + " match 0 0 1 9/8 -\n":         {4, api.BadForm},
		head + "match x 0 1 9/8 -\n":          {4, api.BadForm},
		head + "match 0 x 1 9/8 -\n":          {4, api.BadForm},
		head + "match 0 0 x 9/8 -\n":          {4, api.BadForm},
		head + "match - 0 1 9/8 -\n":          {4, api.BadForm},
		head + "match 0 a b 9/8 -\n":          {4, api.BadForm},
		head + "match 0/0 1 9/8 -\n":          {4, api.BadForm},
		head + "match 00 0 1 9/8 -\n":         {4, api.BadForm},
		head + "match 0 +0 1 9/8 -\n":         {4, api.BadForm},
		head + "match 1000000000 0 1 9/8 -\n": {4, api.BadForm},
		head + "match 999999999 0 1 9/8 -\n":  {0, api.Unknown},
		head + "matches 0 0 1 9/8 -\n":        {4, api.BadForm},
		head + "Match 0 0 1 9/8 -\n":          {4, api.BadForm},
		head + "match 0 0 1 9/8 -":            {0, api.Fair},
		head + "match 0 0 1 9/8 -\x00\n":      {4, api.BadForm},
		head + "\x00\n":                       {4, api.BadForm},
	})
}

// P5.6: the forms of both lists of a match.
func TestParseLists(t *testing.T) {
	texts := make(map[string]parsed)
	for numbers, want := range map[string]api.Foul{
		"-":                   api.NotEnough,
		"9/9":                 api.NotEnough,
		"0/0":                 api.NotEnough,
		"9/9/9/9":             api.BadCount,
		"99/99":               api.OffLimits,
		"9/-1":                api.OffLimits,
		"-1/9":                api.OffLimits,
		"-1/-1":               api.OffLimits,
		"999999999/0":         api.OffLimits,
		"1000000000/0":        api.BadForm,
		"0/-1000000000":       api.BadForm,
		"9":                   api.BadForm,
		"9/9/9":               api.BadForm,
		"-1":                  api.BadForm,
		"/":                   api.BadForm,
		"9/":                  api.BadForm,
		"/9":                  api.BadForm,
		"9//9":                api.BadForm,
		"9/9/":                api.BadForm,
		"9/9/9/":              api.BadForm,
		"9/-":                 api.BadForm,
		"-/9":                 api.BadForm,
		"-/-":                 api.BadForm,
		"--":                  api.BadForm,
		"9 9":                 api.BadForm,
		"9/ 9":                api.BadForm,
		"9,9":                 api.BadForm,
		"9/09":                api.BadForm,
		"-0/9":                api.BadForm,
		"+9/9":                api.BadForm,
		"9..10":               api.BadForm,
		"9/x":                 api.BadForm,
		"9/9\x00":             api.BadForm,
		"9/9/9/9/9/9/9/9/9/x": api.BadForm,
	} {
		line := 0
		if want == api.BadForm {
			line = 4
		}
		texts[head+"match 0 0 1 "+numbers+" -\n"+match] = parsed{line, want}
		offs := map[api.Foul]api.Foul{api.OffLimits: api.Fair, api.BadCount: api.NotEnough}[want]
		if want == api.NotEnough || want == api.BadForm {
			offs = want
		}
		if strings.Contains(numbers, "-1/") || strings.HasSuffix(numbers, "/-1") || strings.HasPrefix(numbers, "999999999") {
			offs = api.OffLimits
		}
		texts[head+"match 0 0 1 9/9 "+numbers+"\n"+match] = parsed{line, offs}
	}
	// Distances may be greater than totals; 99 and 99 decide nothing.
	texts[head+"match 0 0 1 9/9 99/99\n"+match] = parsed{0, api.NotEnough}
	checkForms(t, texts)
}

// P5.6: a text may have just MaxText bytes.
func TestParseLongTexts(t *testing.T) {
	for bytes, want := range map[int]parsed{api.MaxText: {1, api.BadForm}, api.MaxText + 1: {0, api.BadCount}} {
		for _, letter := range []string{"b", "\n", " ", "/", "ä"} {
			text := strings.Repeat(letter, bytes)[:bytes]
			if b, line, f := bracket.Parse(text); (parsed{line, f}) != want || !sameBook(b, api.BracketBook{}) {
				t.Error(bytes, line, f)
			}
		}
	}
	// Very many seeds, results, totals or distances have their form.
	for _, x := range []struct{ before, part, after string }{
		{sets, "seed a\n", ""}, {head, match, ""}, {head + "match 0 0 1 9/9", "/9/9", " -\n"}, {head + "match 0 0 1 9/9 1/1", "/1/1", "\n"},
	} {
		text := x.before + strings.Repeat(x.part, (api.MaxText-len(x.before)-len(x.after))/len(x.part)) + x.after
		if b, line, f := bracket.Parse(text); line != 0 || f != api.BadCount || !sameBook(b, api.BracketBook{}) {
			t.Error(x, line, f)
		}
		lines := strings.Split(strings.TrimSuffix(text, "\n"), "\n")
		lines[len(lines)-1] = "x"
		if _, line, f := bracket.Parse(strings.Join(lines, "\n")); line != len(lines) || f != api.BadForm {
			t.Error(x, line, f)
		}
	}
}

// R4: results of a text share no memory with each other.
func TestParseSharesNothing(t *testing.T) {
	text := head + "match 0 0 1 9/9 1/2\nmatch 0 0 1 9/9 1/2\n"
	for range 2 {
		b, _, f := bracket.Parse(text)
		fair(t, f)
		if !slices.Equal(b.Results[0].Sets, pairs(9, 9)) || !slices.Equal(b.Results[0].Offs, pairs(1, 2)) {
			t.Fatal(b)
		}
		b.Results[0].Sets[0].One, b.Results[0].Offs[0].One = 5, 6
		if !slices.Equal(b.Results[1].Sets, pairs(9, 9)) || !slices.Equal(b.Results[1].Offs, pairs(1, 2)) {
			t.Fatal(b)
		}
	}
}
