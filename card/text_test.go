package card_test

import (
	"math/rand"
	"strings"
	"testing"

	"nock/api"
	"nock/card"
)

const cardText = "card 3 1\nend\narrow 10/11\narrow 8/9\narrow 9\ntold 10/9/9\ntold 10/9/8\nend\narrow 6/7\narrow 6/7\narrow 10\n"

// P3.5: what is printed, byte for byte, and the fouls.
func TestPrint(t *testing.T) {
	for want, c := range map[string]api.CardSheet{
		cardText:     exampleCard(),
		"card 4 4\n": sheet(4, 4),
		"card 1 0\nend\narrow 0\nend\narrow 0/1/2/3/4/5/6/7/8/9/10/11\ntold 11\ntold 0\ntold 11\n": sheet(1, 0, end(lists(list(0))), end(lists(allMarks()), list(11), list(0), list(11))),
	} {
		if s, f := card.Print(c); s != want || f != api.Fair {
			t.Error(s, f)
		}
	}
	// A card whose end does not fit is a card.
	if s, f := card.Print(misfit()); s != strings.Replace(cardText, "card 3 1", "card 3 0", 1) || f != api.Fair {
		t.Error(s, f)
	}
	if s, f := card.Print(api.CardSheet{}); s != "" || f != api.OffLimits {
		t.Error(s, f)
	}
	bad := with(func(c *api.CardSheet) { c.Ends[1].Told = lists(list(7, 6, 10)) })
	if s, f := card.Print(bad); s != "" || f != api.OutOfOrder {
		t.Error(s, f)
	}
}

// P3.5: what is read, with the last line feed and without.
func TestParse(t *testing.T) {
	for _, text := range []string{cardText, strings.TrimSuffix(cardText, "\n")} {
		if c, line, f := card.Parse(text); !sameCard(c, exampleCard()) || line != 0 || f != api.Fair {
			t.Error(c, line, f)
		}
	}
	want := sheet(2, 2, end(lists(list(0), list(11))), end(lists(list(1, 3), list(2)), list(4, 4), list(11, 0)))
	if c, line, f := card.Parse("card 2 2\nend\narrow 0\narrow 11\nend\narrow 1/3\narrow 2\ntold 4/4\ntold 11/0"); !sameCard(c, want) || line != 0 || f != api.Fair {
		t.Error(c, line, f)
	}
}

// P3.5: what is printed is parsed as it was, and printed again it is the same text.
func TestRoundTrip(t *testing.T) {
	r := rand.New(rand.NewSource(71))
	cards := []api.CardSheet{greatCard()}
	for range 500 {
		cards = append(cards, randomCard(r))
	}
	for _, c := range cards {
		text, f := card.Print(c)
		fair(t, f)
		o, line, f := card.Parse(text)
		if !sameCard(o, c) || line != 0 || f != api.Fair {
			t.Fatal(c, text, o, line, f)
		}
		if again, f := card.Print(o); again != text || f != api.Fair {
			t.Fatal(text, again, f)
		}
	}
}

type parsed struct {
	line int
	f    api.Foul
}

const (
	head  = "card 2 1\n"
	end0  = "end\n"
	arrow = "arrow 8/9\n"
	told  = "told 9/8\n"
	bare  = head + end0 + arrow + arrow
)

func checkForms(t *testing.T, texts map[string]parsed) {
	t.Helper()
	for text, want := range texts {
		c, line, f := card.Parse(text)
		if (parsed{line, f}) != want {
			t.Errorf("%q: %d %d", text, line, f)
		}
		if f != api.Fair && !sameCard(c, api.CardSheet{}) {
			t.Errorf("%q: %v", text, c)
		}
	}
}

// P3.5: which lines stand where, and the fouls of a card after all lines.
func TestParseOrder(t *testing.T) {
	checkForms(t, map[string]parsed{
		"":                                   {0, api.BadForm},
		"\n":                                 {1, api.BadForm},
		"\n\n":                               {1, api.BadForm},
		" ":                                  {1, api.BadForm},
		head:                                 {0, api.Fair},
		head + "\n":                          {2, api.BadForm},
		"\n" + head:                          {1, api.BadForm},
		bare:                                 {0, api.Fair},
		bare + told:                          {0, api.Fair},
		bare + told + told + told:            {0, api.Fair},
		bare + told + told + told + told:     {0, api.BadCount},
		bare + "\n" + told:                   {5, api.BadForm},
		bare + "\n":                          {5, api.BadForm},
		bare + end0 + arrow + arrow:          {0, api.Fair},
		bare + told + end0 + arrow + arrow:   {0, api.Fair},
		bare + strings.Repeat(bare[9:], 3):   {0, api.Fair},
		bare + strings.Repeat(bare[9:], 4):   {0, api.BadCount},
		bare + strings.Repeat(end0, 4) + "x": {9, api.BadForm},
		bare + end0:                          {0, api.BadCount},
		head + end0:                          {0, api.BadCount},
		head + end0 + end0:                   {0, api.BadCount},
		head + end0 + arrow:                  {0, api.BadCount},
		head + end0 + told:                   {0, api.BadCount},
		bare + arrow:                         {0, api.BadCount},
		head + end0 + arrow + told:           {0, api.BadCount},
		head + end0 + arrow + told + arrow:   {5, api.BadForm},
		bare + told + arrow:                  {6, api.BadForm},
		head + end0 + told + arrow + arrow:   {4, api.BadForm},
		head + arrow:                         {2, api.BadForm},
		head + told:                          {2, api.BadForm},
		head + head:                          {2, api.BadForm},
		bare + head:                          {5, api.BadForm},
		bare + told + head:                   {6, api.BadForm},
		head + end0 + head:                   {3, api.BadForm},
		end0:                                 {1, api.BadForm},
		end0 + head:                          {1, api.BadForm},
		arrow:                                {1, api.BadForm},
		told:                                 {1, api.BadForm},
		bare + "nothing\n" + head:            {5, api.BadForm},
		bare + head + "nothing\n":            {5, api.BadForm},
		"card 0 0\n":                         {0, api.OffLimits},
		"card 5 0\n":                         {0, api.OffLimits},
		"card 2 3\n":                         {0, api.OffLimits},
		"card 2 3\nx":                        {2, api.BadForm},
		"card 2 2\n":                         {0, api.Fair},
		"card -1 -1\n":                       {0, api.OffLimits},
	})
}

// P3.5: the forms of lines without lists.
func TestParseForms(t *testing.T) {
	checkForms(t, map[string]parsed{
		"card\n":                    {1, api.BadForm},
		"card 2\n":                  {1, api.BadForm},
		"card 2 1 0\n":              {1, api.BadForm},
		"card 2 1 \n":               {1, api.BadForm},
		"card  2 1\n":               {1, api.BadForm},
		" card 2 1\n":               {1, api.BadForm},
		"card 2\t1\n":               {1, api.BadForm},
		"card 2 1\r\n":              {1, api.BadForm},
		"Card 2 1\n":                {1, api.BadForm},
		"cards 2 1\n":               {1, api.BadForm},
		"card 2 x\n":                {1, api.BadForm},
		"card x 1\n":                {1, api.BadForm},
		"card 2 -\n":                {1, api.BadForm},
		"card 2 1/1\n":              {1, api.BadForm},
		"card 2..3 1\n":             {1, api.BadForm},
		"card 2 -0\n":               {1, api.BadForm},
		"card 2 +1\n":               {1, api.BadForm},
		"card 2 01\n":               {1, api.BadForm},
		"card 2 00\n":               {1, api.BadForm},
		"card 2 --1\n":              {1, api.BadForm},
		"card 0x2 1\n":              {1, api.BadForm},
		"card 1_0 1\n":              {1, api.BadForm},
		"card 2 1.0\n":              {1, api.BadForm},
		"card 2 1":                  {0, api.Fair},
		"card 2 999999999\n":        {0, api.OffLimits},
		"card 2 -999999999\n":       {0, api.OffLimits},
		"card 2 1000000000\n":       {1, api.BadForm},
		"card 2 -1000000000\n":      {1, api.BadForm},
		"card 99999999999999999999": {1, api.BadForm},
		head + "end 1\n":            {2, api.BadForm},
		head + "end -\n":            {2, api.BadForm},
		head + "end \n":             {2, api.BadForm},
		head + " end\n":             {2, api.BadForm},
		head + "End\n":              {2, api.BadForm},
		head + "ends\n":             {2, api.BadForm},
		head + "\xff\n":             {2, api.BadForm},
		head + "\x00\n":             {2, api.BadForm},
	})
}

// P3.5: the forms of lists, and their fouls after all lines.
func TestParseLists(t *testing.T) {
	texts := make(map[string]parsed)
	add := func(before, after, list string, line int, want api.Foul) {
		if want != api.BadForm {
			line = 0
		}
		texts[before+list+"\n"+after] = parsed{line, want}
	}
	for fields, want := range map[string][2]api.Foul{
		"":                                 {api.BadForm, api.BadForm},
		" ":                                {api.BadForm, api.BadForm},
		" -":                               {api.BadCount, api.BadCount},
		" 9/8":                             {api.OutOfOrder, api.Fair},
		" 8/9":                             {api.Fair, api.OutOfOrder},
		" 8/8":                             {api.OutOfOrder, api.Fair},
		" 8":                               {api.Fair, api.BadCount},
		" 8/9/10":                          {api.Fair, api.BadCount},
		" 0/11":                            {api.Fair, api.OutOfOrder},
		" 11/0":                            {api.OutOfOrder, api.Fair},
		" 8/12":                            {api.OffLimits, api.OffLimits},
		" 12/8":                            {api.OffLimits, api.OffLimits},
		" -1/8":                            {api.OffLimits, api.OffLimits},
		" -1/-2":                           {api.OffLimits, api.OffLimits},
		" 8/999999999":                     {api.OffLimits, api.OffLimits},
		" 8/1000000000":                    {api.BadForm, api.BadForm},
		" 0/1/2/3/4/5/6/7/8/9/10/11":       {api.Fair, api.BadCount},
		" 0/1/2/3/4/5/6/7/8/9/10/11/12":    {api.BadCount, api.BadCount},
		" 0/1/2/3/4/5/6/7/8/9/10/11/12/13": {api.BadCount, api.BadCount},
		" /":                               {api.BadForm, api.BadForm},
		" 8/":                              {api.BadForm, api.BadForm},
		" /8":                              {api.BadForm, api.BadForm},
		" 8//9":                            {api.BadForm, api.BadForm},
		" 8/-":                             {api.BadForm, api.BadForm},
		" -/8":                             {api.BadForm, api.BadForm},
		" -/-":                             {api.BadForm, api.BadForm},
		" --":                              {api.BadForm, api.BadForm},
		" - -":                             {api.BadForm, api.BadForm},
		" 8 9":                             {api.BadForm, api.BadForm},
		" 8/9 9":                           {api.BadForm, api.BadForm},
		" 8 /9":                            {api.BadForm, api.BadForm},
		" 8,9":                             {api.BadForm, api.BadForm},
		" 8/09":                            {api.BadForm, api.BadForm},
		" -0/9":                            {api.BadForm, api.BadForm},
		" +8/9":                            {api.BadForm, api.BadForm},
		" 8..9":                            {api.BadForm, api.BadForm},
		" 8/x":                             {api.BadForm, api.BadForm},
		"  8/9":                            {api.BadForm, api.BadForm},
		" 8/9 ":                            {api.BadForm, api.BadForm},
		"s 8/9":                            {api.BadForm, api.BadForm},
	} {
		add(head+end0+arrow+"arrow", told, fields, 4, want[0])
		add(bare+told+"told", end0+arrow+arrow, fields, 6, want[1])
	}
	checkForms(t, texts)
}

// P3.5: a text may have just MaxText bytes.
func TestParseLongTexts(t *testing.T) {
	for bytes, want := range map[int]parsed{api.MaxText: {1, api.BadForm}, api.MaxText + 1: {0, api.BadCount}} {
		for _, letter := range []string{"c", "\n", " ", "/", "ä"} {
			text := strings.Repeat(letter, bytes)[:bytes]
			if c, line, f := card.Parse(text); (parsed{line, f}) != want || !sameCard(c, api.CardSheet{}) {
				t.Error(bytes, line, f)
			}
		}
	}
	// Very many ends, lists or marks have their form.
	for _, x := range []struct{ before, part string }{{head, end0}, {bare, told}, {head + end0 + "arrow 1", "/1"}, {head + end0, "arrow 1\n"}} {
		text := x.before + strings.Repeat(x.part, (api.MaxText-len(x.before))/len(x.part))
		if c, line, f := card.Parse(text); line != 0 || f != api.BadCount || !sameCard(c, api.CardSheet{}) {
			t.Error(x, line, f)
		}
		wrong := text[:len(text)-2] + "x"
		if _, line, f := card.Parse(wrong); line != strings.Count(wrong, "\n")+1 || f != api.BadForm {
			t.Error(x, line, f)
		}
	}
}
