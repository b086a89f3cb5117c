package record_test

import (
	"math/rand"
	"strings"
	"testing"

	"nock/api"
	"nock/record"
)

const exampleText = "kind r 2 3 7000 30 10\nevent a 100 3 3 6980..7020\nevent b 200 2 2..4 7000\nevent c 300 1 5 7000\nclaim ann 0 0 670 105..115 -1\nclaim ben 1 0 680 205 -1\nclaim cem 2 0 690 301 -1\nclaim dia 1 0 670 210 400\nclass x 660 2 2 150\ntable 500/600/700\n"

// P9.5: what is printed, byte for byte.
func TestPrint(t *testing.T) {
	for _, x := range []struct {
		b    api.RecordBook
		want string
	}{
		{exampleBook(), exampleText},
		{api.RecordBook{}, "table -\n"},
		{api.RecordBook{Table: list(0)}, "table 0\n"},
		{api.RecordBook{Table: list(0, 1, 2, 3, 4, 1440)}, "table 0/1/2/3/4/1440\n"},
		{api.RecordBook{Classes: []api.RecordClass{class("c", 1440, 5, 4, 999), class("b", 0, 0, 1, 0)}}, "class c 1440 5 4 999\nclass b 0 0 1 0\ntable -\n"},
		{api.RecordBook{Events: []api.RecordEvent{event("e", 9999, 0, span(0, 9), span(0, 99999)), event("d", 0, 5, only(0), only(99999))}}, "event e 9999 0 0..9 0..99999\nevent d 0 5 0 99999\ntable -\n"},
		{api.RecordBook{Kinds: []api.RecordKind{kind("k", 5, 9, 99999, 999, 998), kind("j1", 0, 0, 0, 0, 0)}, Table: list(7)}, "kind k 5 9 99999 999 998\nkind j1 0 0 0 0 0\ntable 7\n"},
		{api.RecordBook{
			Kinds:  []api.RecordKind{kind("k", 0, 0, 0, 0, 0), kind("l", 0, 0, 0, 0, 0)},
			Events: []api.RecordEvent{event("e", 0, 0, only(0), only(0))},
			Claims: []api.RecordClaim{claim("abcdefghij01", 0, 1, 1440, span(0, 9999), 0)},
		}, "kind k 0 0 0 0 0\nkind l 0 0 0 0 0\nevent e 0 0 0 0\nclaim abcdefghij01 0 1 1440 0..9999 0\ntable -\n"},
	} {
		if s, f := record.Print(x.b); s != x.want || f != api.Fair {
			t.Error(s, f)
		}
		if b, n, f := record.Parse(x.want); !sameBook(b, x.b) || n != 0 || f != api.Fair {
			t.Error(x.want, b, n, f)
		}
	}
}

// P9.5: the foul of what cannot be printed.
func TestPrintFouls(t *testing.T) {
	for want, change := range map[api.Foul]change{
		api.BadCount:   func(b *api.RecordBook) { b.Table = make([]int, 7) },
		api.BadName:    func(b *api.RecordBook) { b.Claims[0].Archer = "a b" },
		api.Twice:      func(b *api.RecordBook) { b.Events[1].Name = "a" },
		api.OffLimits:  func(b *api.RecordBook) { b.Events[1].Judges = span(4, 2) },
		api.Unknown:    func(b *api.RecordBook) { b.Kinds = nil },
		api.OutOfOrder: func(b *api.RecordBook) { b.Claims[3].Gone = 199 },
	} {
		if s, f := record.Print(withBook(change)); s != "" || f != want {
			t.Error(want, s, f)
		}
	}
}

// P9.5: what is read, with the last line feed and without.
func TestParse(t *testing.T) {
	for _, text := range []string{exampleText, strings.TrimSuffix(exampleText, "\n")} {
		if b, n, f := record.Parse(text); !sameBook(b, exampleBook()) || n != 0 || f != api.Fair {
			t.Error(b, n, f)
		}
	}
}

// P9.5: what is printed is parsed as it was, and printed again it is the same text.
func TestRoundTrip(t *testing.T) {
	r := rand.New(rand.NewSource(112))
	books := []api.RecordBook{greatBook(), openBook()}
	for range 800 {
		books = append(books, randomBook(r, pick(r, []scale{small, great})))
	}
	for _, b := range books {
		text, f := record.Print(b)
		fair(t, f)
		again, n, f := record.Parse(text)
		if !sameBook(again, b) || n != 0 || f != api.Fair {
			t.Fatal(b, text, again, n, f)
		}
		if s, f := record.Print(again); s != text || f != api.Fair {
			t.Fatal(text, s, f)
		}
	}
}

type parsed struct {
	line int
	f    api.Foul
}

const (
	kind1  = "kind k 1 2 3 4 5\n"
	event1 = "event e 1 2 3 4..5\n"
	claim1 = "claim a 0 0 9 1..2 -1\n"
	class1 = "class c 1 2 3 4\n"
	table1 = "table 1/2\n"
	whole  = kind1 + event1 + claim1 + class1 + table1
)

func checkForms(t *testing.T, texts map[string]parsed) {
	t.Helper()
	for text, want := range texts {
		b, n, f := record.Parse(text)
		if (parsed{n, f}) != want {
			t.Errorf("%q: %d %d", text, n, f)
		}
		if f != api.Fair && !sameBook(b, api.RecordBook{}) {
			t.Errorf("%q: %v", text, b)
		}
	}
}

// P9.5: which lines stand where.
func TestParseOrder(t *testing.T) {
	checkForms(t, map[string]parsed{
		"":                               {0, api.BadForm},
		"\n":                             {1, api.BadForm},
		"\n\n":                           {1, api.BadForm},
		" ":                              {1, api.BadForm},
		"x":                              {1, api.BadForm},
		whole:                            {0, api.Fair},
		table1:                           {0, api.Fair},
		"table -":                        {0, api.Fair},
		"\n" + whole:                     {1, api.BadForm},
		whole + "\n":                     {6, api.BadForm},
		whole + " ":                      {6, api.BadForm},
		whole + "x":                      {6, api.BadForm},
		whole + table1:                   {6, api.BadForm},
		whole + kind1:                    {6, api.BadForm},
		whole + class1:                   {6, api.BadForm},
		table1 + table1:                  {2, api.BadForm},
		table1 + kind1:                   {2, api.BadForm},
		table1 + "x\n" + "y\n":           {2, api.BadForm},
		kind1:                            {0, api.BadForm},
		kind1 + event1 + claim1:          {0, api.BadForm},
		kind1 + event1 + claim1 + class1: {0, api.BadForm},
		kind1 + "x\n":                    {2, api.BadForm},
		kind1 + "\n" + table1:            {2, api.BadForm},
		kind1 + table1:                   {0, api.Fair},
		kind1 + class1 + table1:          {0, api.Fair},
		event1 + table1:                  {0, api.Fair},
		event1 + class1 + table1:         {0, api.Fair},
		class1 + table1:                  {0, api.Fair},
		kind1 + event1 + table1:          {0, api.Fair},
		kind1 + event1 + claim1 + claim1 + table1: {0, api.Fair},
		claim1 + table1:                     {0, api.Unknown},
		kind1 + claim1 + table1:             {0, api.Unknown},
		event1 + claim1 + table1:            {0, api.Unknown},
		event1 + kind1 + table1:             {2, api.BadForm},
		kind1 + event1 + kind1 + table1:     {3, api.BadForm},
		kind1 + claim1 + event1 + table1:    {3, api.BadForm},
		claim1 + kind1 + table1:             {2, api.BadForm},
		class1 + kind1 + table1:             {2, api.BadForm},
		class1 + event1 + table1:            {2, api.BadForm},
		class1 + claim1 + table1:            {2, api.BadForm},
		kind1 + kind1 + table1:              {0, api.Twice},
		event1 + event1 + table1:            {0, api.Twice},
		class1 + class1 + table1:            {0, api.Twice},
		kind1 + kind1:                       {0, api.BadForm},
		"kind K 1 2 3 4 5\n" + table1:       {0, api.BadName},
		"kind K 1 2 3 4 5\n" + table1 + "x": {3, api.BadForm},
		"kind K 1 2 3 4 5\n":                {0, api.BadForm},
	})
}

// wholeWith returns the whole text with another line in place of one of its lines, and the number of that line.
func wholeWith(line string) (text string, number int) {
	trimmed := strings.ToLower(strings.TrimLeft(line, " "))
	for i, old := range strings.SplitAfter(whole, "\n") {
		if word, _, _ := strings.Cut(old, " "); word != "" && strings.HasPrefix(trimmed, word) {
			return strings.Replace(whole, old, line+"\n", 1), i + 1
		}
	}
	return line, 0
}

// checkLines looks for the foul of each line in its place; with BadForm it is the first wrong one.
func checkLines(t *testing.T, lines map[string]api.Foul) {
	t.Helper()
	texts := make(map[string]parsed)
	for line, want := range lines {
		text, number := wholeWith(line)
		if number == 0 {
			t.Error("no such line", line)
		}
		if want != api.BadForm {
			number = 0
		}
		texts[text] = parsed{number, want}
	}
	checkForms(t, texts)
}

// P9.5: the forms of the lines of kinds and classes.
func TestParseKindForms(t *testing.T) {
	checkLines(t, map[string]api.Foul{
		"kind": api.BadForm, "kind ": api.BadForm, "kind k": api.BadForm, "kind k 1 2 3 4": api.BadForm, "kind k 1 2 3 4 ": api.BadForm, "kind k 1 2 3 4 5": api.Fair, "kind k 1 2 3 4 5 ": api.BadForm, "kind k 1 2 3 4 5 6": api.BadForm, " kind k 1 2 3 4 5": api.BadForm, "kind  k 1 2 3 4 5": api.BadForm, "kind k  1 2 3 4 5": api.BadForm, "kind k 1 2 3 4  5": api.BadForm, "kind\tk 1 2 3 4 5": api.BadForm, "kind k 1 2 3 4 5\r": api.BadForm, "kind 1 2 3 4 5": api.BadForm,
		"kinds k 1 2 3 4 5": api.BadForm, "Kind k 1 2 3 4 5": api.BadForm, "kind k x 2 3 4 5": api.BadForm, "kind k 1 x 3 4 5": api.BadForm, "kind k 1 2 x 4 5": api.BadForm, "kind k 1 2 3 x 5": api.BadForm, "kind k 1 2 3 4 x": api.BadForm, "kind k 01 2 3 4 5": api.BadForm, "kind k 1 +2 3 4 5": api.BadForm, "kind k 1 2 3 4 -0": api.BadForm, "kind k 1 2 3 4 00": api.BadForm, "kind k 1 2 3 4 -": api.BadForm, "kind k 1 2 3 4 --1": api.BadForm, "kind k 1 2 3..4 4 5": api.BadForm, "kind k 1 2 3/4 4 5": api.BadForm, "kind k 1_0 2 3 4 5": api.BadForm, "kind k 0x1 2 3 4 5": api.BadForm, "kind k 1.0 2 3 4 5": api.BadForm,
		"kind k 5 9 99999 999 999": api.Fair, "kind k 0 0 0 0 0": api.Fair, "kind k 6 2 3 4 5": api.OffLimits, "kind k 1 10 3 4 5": api.OffLimits, "kind k 1 2 100000 4 5": api.OffLimits, "kind k 1 2 3 1000 5": api.OffLimits, "kind k 1 2 3 4 1000": api.OffLimits, "kind k -1 2 3 4 5": api.OffLimits, "kind k 1 2 3 4 -1": api.OffLimits, "kind k 1 2 999999999 4 5": api.OffLimits, "kind k 1 2 -999999999 4 5": api.OffLimits, "kind k 1 2 1000000000 4 5": api.BadForm, "kind k 1 2 -1000000000 4 5": api.BadForm, "kind k 1 2 3 4 99999999999999999999": api.BadForm,
		"kind K 1 2 3 4 5": api.BadName, "kind 1 1 2 3 4 5": api.BadName, "kind - 1 2 3 4 5": api.BadName, "kind a/b 1 2 3 4 5": api.BadName, "kind ä 1 2 3 4 5": api.BadName, "kind k\r 1 2 3 4 5": api.BadName, "kind k\x00 1 2 3 4 5": api.BadName, "kind \xff 1 2 3 4 5": api.BadName, "kind abcdefghij01 1 2 3 4 5": api.Fair, "kind abcdefghij012 1 2 3 4 5": api.BadName, "kind kind 1 2 3 4 5": api.Fair, "kind e 1 2 3 4 5": api.Fair,
		"class": api.BadForm, "class c": api.BadForm, "class c 1 2 3": api.BadForm, "class c 1 2 3 ": api.BadForm, "class c 1 2 3 4": api.Fair, "class c 1 2 3 4 ": api.BadForm, "class c 1 2 3 4 5": api.BadForm, "class  c 1 2 3 4": api.BadForm, "class c 1 2  3 4": api.BadForm, "class 1 2 3 4": api.BadForm, "classes c 1 2 3 4": api.BadForm, "Class c 1 2 3 4": api.BadForm, "class c x 2 3 4": api.BadForm, "class c 1 x 3 4": api.BadForm, "class c 1 2 x 4": api.BadForm, "class c 1 2 3 x": api.BadForm, "class c 1..2 2 3 4": api.BadForm, "class c 1 2 03 4": api.BadForm, "class c 1 2 3 -0": api.BadForm,
		"class c 1440 5 4 999": api.Fair, "class c 0 0 1 0": api.Fair, "class c 1441 2 3 4": api.OffLimits, "class c 1 6 3 4": api.OffLimits, "class c 1 2 0 4": api.OffLimits, "class c 1 2 5 4": api.OffLimits, "class c 1 2 3 1000": api.OffLimits, "class c -1 2 3 4": api.OffLimits, "class c 1000000000 2 3 4": api.BadForm, "class C 1 2 3 4": api.BadName, "class - 1 2 3 4": api.BadName, "class k 1 2 3 4": api.Fair,
	})
}

// P9.5: the forms of the lines of events and claims.
func TestParseClaimForms(t *testing.T) {
	checkLines(t, map[string]api.Foul{
		"event": api.BadForm, "event e": api.BadForm, "event e 1 2 3": api.BadForm, "event e 1 2 3 ": api.BadForm, "event e 1 2 3 4": api.Fair, "event e 1 2 3 4 ": api.BadForm, "event e 1 2 3 4 5": api.BadForm, "event  e 1 2 3 4": api.BadForm, "event e 1  2 3 4": api.BadForm, "event 1 2 3 4": api.BadForm, "events e 1 2 3 4": api.BadForm, "Event e 1 2 3 4": api.BadForm, "event e x 2 3 4": api.BadForm, "event e 1 x 3 4": api.BadForm, "event e 1 2 x 4": api.BadForm, "event e 1 2 3 x": api.BadForm, "event e 1..2 2 3 4": api.BadForm, "event e 1 2..3 3 4": api.BadForm, "event e 01 2 3 4": api.BadForm,
		"event e 1 2 3..4 4..5": api.Fair, "event e 1 2 3..3 4": api.BadForm, "event e 1 2 3 4..4": api.BadForm, "event e 1 2 4..3 4": api.OffLimits, "event e 1 2 3 5..4": api.OffLimits, "event e 1 2 3.4 4": api.BadForm, "event e 1 2 3...4 4": api.BadForm, "event e 1 2 3.. 4": api.BadForm, "event e 1 2 ..3 4": api.BadForm, "event e 1 2 .. 4": api.BadForm, "event e 1 2 1..2..3 4": api.BadForm, "event e 1 2 03..4 4": api.BadForm, "event e 1 2 3..04 4": api.BadForm, "event e 1 2 3..+4 4": api.BadForm, "event e 1 2 -0..4 4": api.BadForm, "event e 1 2 3/4 4": api.BadForm, "event e 1 2 - 4": api.BadForm, "event e 1 2 3 4..x": api.BadForm, "event e 1 2 3 x..4": api.BadForm,
		"event e 1 5 0..9 0..99999": api.Fair, "event e 0 0 0 0": api.Fair, "event e 10000 2 3 4": api.OffLimits, "event e -1 2 3 4": api.OffLimits, "event e 1 6 3 4": api.OffLimits, "event e 1 2 10 4": api.OffLimits, "event e 1 2 -1..3 4": api.OffLimits, "event e 1 2 -2..-1 4": api.OffLimits, "event e 1 2 3 0..100000": api.OffLimits, "event e 1 2 3 0..999999999": api.OffLimits, "event e 1 2 3 0..1000000000": api.BadForm, "event e 1 2 3 1000000000..0": api.BadForm, "event E 1 2 3 4": api.BadName, "event 1 1 2 3 4": api.BadName, "event k 1 2 3 4": api.Fair, "event event 1 2 3 4": api.Fair, "event e 2 2 3 4": api.OutOfOrder,
		"claim": api.BadForm, "claim a": api.BadForm, "claim a 0 0 9 1..2": api.BadForm, "claim a 0 0 9 1..2 ": api.BadForm, "claim a 0 0 9 1..2 -1": api.Fair, "claim a 0 0 9 1..2 -1 ": api.BadForm, "claim a 0 0 9 1..2 -1 0": api.BadForm, "claim  a 0 0 9 1..2 -1": api.BadForm, "claim a 0  0 9 1..2 -1": api.BadForm, "claim 0 0 9 1..2 -1": api.BadForm, "claims a 0 0 9 1..2 -1": api.BadForm, "Claim a 0 0 9 1..2 -1": api.BadForm, "claim a x 0 9 1..2 -1": api.BadForm, "claim a 0 x 9 1..2 -1": api.BadForm, "claim a 0 0 x 1..2 -1": api.BadForm, "claim a 0 0 9 x -1": api.BadForm, "claim a 0 0 9 1..2 x": api.BadForm, "claim a 0 0 9 1..2 -": api.BadForm, "claim a 0 0 9 1..2 1..3": api.BadForm, "claim a 0..1 0 9 1..2 -1": api.BadForm, "claim a 0 0 9..10 1..2 -1": api.BadForm, "claim a 0 0 9 1..1 -1": api.BadForm, "claim a 0 0 9 1..2 -01": api.BadForm, "claim a e k 9 1..2 -1": api.BadForm,
		"claim a 0 0 1440 1 1": api.Fair, "claim a 0 0 0 1..9999 9999": api.Fair, "claim a 1 0 9 1..2 -1": api.Unknown, "claim a 0 1 9 1..2 -1": api.Unknown, "claim a -1 0 9 1..2 -1": api.Unknown, "claim a 0 0 1441 1..2 -1": api.OffLimits, "claim a 0 0 -1 1..2 -1": api.OffLimits, "claim a 0 0 9 2..1 -1": api.OffLimits, "claim a 0 0 9 1..10000 -1": api.OffLimits, "claim a 0 0 9 0..2 -1": api.OutOfOrder, "claim a 0 0 9 1..2 0": api.OutOfOrder, "claim a 0 0 9 1..2 -2": api.OutOfOrder, "claim a 0 0 9 1..2 10000": api.OffLimits, "claim a 0 0 9 1..2 1000000000": api.BadForm, "claim A 0 0 9 1..2 -1": api.BadName, "claim 1 0 0 9 1..2 -1": api.BadName, "claim e 0 0 9 1..2 -1": api.Fair,
	})
}

// P9.5: the forms of the line of the table.
func TestParseTableForms(t *testing.T) {
	checkLines(t, map[string]api.Foul{
		"table": api.BadForm, "table ": api.BadForm, "table -": api.Fair, "table - ": api.BadForm, "table - -": api.BadForm, "table --": api.BadForm, "table 1": api.Fair, "table 1 2": api.BadForm, "table 1/2/3/4/5/6": api.Fair, "table 1/2/3/4/5/6/7": api.BadCount, "table 1/": api.BadForm, "table /1": api.BadForm, "table /": api.BadForm, "table 1//2": api.BadForm, "table 1/-": api.BadForm, "table -/1": api.BadForm, "table 1/x": api.BadForm, "table 1,2": api.BadForm, "table 1..2": api.BadForm, "table 01/2": api.BadForm, "table 1/+2": api.BadForm, "table -0": api.BadForm, "table  1": api.BadForm, "table 1\r": api.BadForm, "tables 1": api.BadForm, "Table 1": api.BadForm, " table 1": api.BadForm, "table\t1": api.BadForm,
		"table 0/1440": api.Fair, "table 1441": api.OffLimits, "table -1": api.OffLimits, "table -1/2": api.OffLimits, "table 1/1": api.OutOfOrder, "table 2/1": api.OutOfOrder, "table 2/1/1441": api.OutOfOrder, "table 2/1441/1": api.OffLimits, "table 999999999": api.OffLimits, "table 1000000000": api.BadForm, "table 1/-1000000000": api.BadForm,
	})
}

// P9.5: a text may have just MaxText bytes.
func TestParseLongTexts(t *testing.T) {
	for bytes, want := range map[int]parsed{api.MaxText: {1, api.BadForm}, api.MaxText + 1: {0, api.BadCount}} {
		for _, letter := range []string{"k", "\n", " ", "/", "ä"} {
			text := strings.Repeat(letter, bytes)[:bytes]
			if b, n, f := record.Parse(text); (parsed{n, f}) != want || !sameBook(b, api.RecordBook{}) {
				t.Error(bytes, n, f)
			}
		}
	}
	// Very many lines, numbers of a list or letters of a name have their form.
	for _, x := range []struct {
		before, part, after string
		want                api.Foul
	}{
		{"", kind1, table1, api.BadCount},
		{kind1, event1, table1, api.BadCount},
		{kind1 + event1, claim1, table1, api.BadCount},
		{"", class1, table1, api.BadCount},
		{"table ", "1/", "1", api.BadCount},
		{"kind ", "k", " 1 2 3 4 5\n" + table1, api.BadName},
		{kind1 + event1 + "claim ", "a", " 0 0 9 1..2 -1\n" + table1, api.BadName},
	} {
		many := (api.MaxText - len(x.before) - len(x.after)) / len(x.part)
		text := x.before + strings.Repeat(x.part, many) + x.after
		if b, n, f := record.Parse(text); n != 0 || f != x.want || !sameBook(b, api.RecordBook{}) {
			t.Error(x.part, n, f)
		}
		text += strings.Repeat("x", api.MaxText+1-len(text))
		if b, n, f := record.Parse(text); n != 0 || f != api.BadCount || !sameBook(b, api.RecordBook{}) {
			t.Error(x.part, n, f)
		}
	}
}
