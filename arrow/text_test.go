package arrow_test

import (
	"fmt"
	"math/rand"
	"strings"
	"testing"

	"nock/api"
	"nock/arrow"
)

const stockText = "rule 10 2 5 3\nshaft a 400..405 700 250..252\nshaft b 404..408 701 251\nshaft c 398..402 700..701 249..250\nshaft d 409..412 700 255\nshaft e 402 702 252..254\nshaft f 405..406 701..702 253\nshaft g 450 700 250\n"

const cardText = "sight 2 4 1 2\nshot 10 30..32 0 0\nshot 20 55..60 0 0\nshot 30 96..99 1 1\n"

// P1.5: what is printed, byte for byte, and its fouls.
func TestPrint(t *testing.T) {
	if s, f := arrow.PrintStock(exampleStock()); s != stockText || f != api.Fair {
		t.Error(s, f)
	}
	if s, f := arrow.PrintStock(api.ArrowStock{Rule: api.ArrowRule{Many: 2}}); s != "rule 0 0 0 2\n" || f != api.Fair {
		t.Error(s, f)
	}
	if s, f := arrow.PrintCard(exampleCard()); s != cardText || f != api.Fair {
		t.Error(s, f)
	}
	if s, f := arrow.PrintCard(api.SightCard{}); s != "sight 0 0 0 0\n" || f != api.Fair {
		t.Error(s, f)
	}
	if s, f := arrow.PrintStock(api.ArrowStock{}); s != "" || f != api.OffLimits {
		t.Error(s, f)
	}
	bad := exampleStock()
	bad.Shafts[6].Name = "a"
	if s, f := arrow.PrintStock(bad); s != "" || f != api.Twice {
		t.Error(s, f)
	}
	if s, f := arrow.PrintCard(api.SightCard{Shots: make([]api.SightShot, 9)}); s != "" || f != api.BadCount {
		t.Error(s, f)
	}
}

// P1.5: what is read.
func TestParse(t *testing.T) {
	if s, line, f := arrow.ParseStock(stockText); !sameStock(s, exampleStock()) || line != 0 || f != api.Fair {
		t.Error(s, line, f)
	}
	if s, line, f := arrow.ParseStock(strings.TrimSuffix(stockText, "\n")); !sameStock(s, exampleStock()) || line != 0 || f != api.Fair {
		t.Error(s, line, f)
	}
	if c, line, f := arrow.ParseCard(cardText); !sameCard(c, exampleCard()) || line != 0 || f != api.Fair {
		t.Error(c, line, f)
	}
	if c, line, f := arrow.ParseCard(strings.TrimSuffix(cardText, "\n")); !sameCard(c, exampleCard()) || line != 0 || f != api.Fair {
		t.Error(c, line, f)
	}
}

// P1.5: what is printed is parsed as it was, and printed again it is the same text.
func TestRoundTrip(t *testing.T) {
	r := rand.New(rand.NewSource(17))
	for range 200 {
		s := randomStock(r, r.Intn(10))
		text, f := arrow.PrintStock(s)
		fair(t, f)
		if o, line, f := arrow.ParseStock(text); !sameStock(o, s) || line != 0 || f != api.Fair {
			t.Fatal(s, text, o, line, f)
		}
		c := randomCard(r, r.Intn(9))
		text, f = arrow.PrintCard(c)
		fair(t, f)
		if o, line, f := arrow.ParseCard(text); !sameCard(o, c) || line != 0 || f != api.Fair {
			t.Fatal(c, text, o, line, f)
		}
	}
}

type parsed struct {
	line int
	f    api.Foul
}

const (
	rule  = "rule 1 2 3 2\n"
	shaft = "shaft a 1 2 3\n"
	sight = "sight 1 2 3 4\n"
	shot  = "shot 5 6 0 0\n"
)

// shaftLines returns so many lines of shafts with different names.
func shaftLines(n int) string {
	text := ""
	for i := range n {
		text += fmt.Sprintf("shaft s%d 1 2 3\n", i)
	}
	return text
}

// P1.5: the forms of a stock's lines, their order, and fouls after them.
func TestParseStockForms(t *testing.T) {
	for text, want := range map[string]parsed{
		"":                                    {0, api.BadForm},
		"\n":                                  {1, api.BadForm},
		" ":                                   {1, api.BadForm},
		rule:                                  {0, api.Fair},
		"rule 1 2 3 2":                        {0, api.Fair},
		rule + shaft:                          {0, api.Fair},
		rule + "\n":                           {2, api.BadForm},
		"\n" + rule:                           {1, api.BadForm},
		rule + "\n" + shaft:                   {2, api.BadForm},
		rule + shaft + "\n":                   {3, api.BadForm},
		rule + rule:                           {2, api.BadForm},
		rule + shaft + rule:                   {3, api.BadForm},
		rule + rule + "nothing\n":             {2, api.BadForm},
		rule + "nothing\n" + rule:             {2, api.BadForm},
		shaft:                                 {1, api.BadForm},
		shaft + rule:                          {1, api.BadForm},
		sight:                                 {1, api.BadForm},
		rule + shot:                           {2, api.BadForm},
		rule + sight:                          {2, api.BadForm},
		"rule\n":                              {1, api.BadForm},
		"rule 1 2 3\n":                        {1, api.BadForm},
		"rule 1 2 3 2 4\n":                    {1, api.BadForm},
		"rule 1 2 3 2 \n":                     {1, api.BadForm},
		" rule 1 2 3 2\n":                     {1, api.BadForm},
		"rule 1 2  3 2\n":                     {1, api.BadForm},
		"rule  1 2 3 2\n":                     {1, api.BadForm},
		"rule\t1 2 3 2\n":                     {1, api.BadForm},
		"rule 1 2 3 2\r\n":                    {1, api.BadForm},
		"Rule 1 2 3 2\n":                      {1, api.BadForm},
		"rules 1 2 3 2\n":                     {1, api.BadForm},
		"rule 01 2 3 2\n":                     {1, api.BadForm},
		"rule 00 2 3 2\n":                     {1, api.BadForm},
		"rule 0 2 3 2\n":                      {0, api.Fair},
		"rule +1 2 3 2\n":                     {1, api.BadForm},
		"rule -1 2 3 2\n":                     {0, api.OffLimits},
		"rule -01 2 3 2\n":                    {1, api.BadForm},
		"rule -0 2 3 2\n":                     {1, api.BadForm},
		"rule - 2 3 2\n":                      {1, api.BadForm},
		"rule --1 2 3 2\n":                    {1, api.BadForm},
		"rule 1_0 2 3 2\n":                    {1, api.BadForm},
		"rule 0x1 2 3 2\n":                    {1, api.BadForm},
		"rule 1e1 2 3 2\n":                    {1, api.BadForm},
		"rule 1.0 2 3 2\n":                    {1, api.BadForm},
		"rule １ 2 3 2\n":                      {1, api.BadForm},
		"rule 1..2 2 3 2\n":                   {1, api.BadForm},
		"rule 999999999 2 3 2\n":              {0, api.OffLimits},
		"rule -999999999 2 3 2\n":             {0, api.OffLimits},
		"rule 1000000000 2 3 2\n":             {1, api.BadForm},
		"rule -1000000000 2 3 2\n":            {1, api.BadForm},
		"rule 99999999999999999999999 2 3 2":  {1, api.BadForm},
		"rule 1 2 3 9\n":                      {0, api.OffLimits},
		"rule 1 2 3 9\nnothing\n":             {2, api.BadForm},
		rule + "shaft\n":                      {2, api.BadForm},
		rule + "shaft a 1 2\n":                {2, api.BadForm},
		rule + "shaft a 1 2 3 4\n":            {2, api.BadForm},
		rule + "shaft a 1 2 3..4\n":           {0, api.Fair},
		rule + "shaft a 0..9999 0..1 9..10\n": {0, api.Fair},
		rule + "shaft a 1 2 4..4\n":           {2, api.BadForm},
		rule + "shaft a 1 2 4..3\n":           {0, api.OffLimits},
		rule + "shaft a 1 2 -4..3\n":          {0, api.OffLimits},
		rule + "shaft a 1 2 -4..-3\n":         {0, api.OffLimits},
		rule + "shaft a 1 2 -4..-4\n":         {2, api.BadForm},
		rule + "shaft a 1 2 -3\n":             {0, api.OffLimits},
		rule + "shaft a 1 2 10000\n":          {0, api.OffLimits},
		rule + "shaft a 1 2 4..\n":            {2, api.BadForm},
		rule + "shaft a 1 2 ..4\n":            {2, api.BadForm},
		rule + "shaft a 1 2 ..\n":             {2, api.BadForm},
		rule + "shaft a 1 2 4.5\n":            {2, api.BadForm},
		rule + "shaft a 1 2 4...5\n":          {2, api.BadForm},
		rule + "shaft a 1 2 4..5..6\n":        {2, api.BadForm},
		rule + "shaft a 1 2 04..5\n":          {2, api.BadForm},
		rule + "shaft a 1 2 4..05\n":          {2, api.BadForm},
		rule + "shaft a 1 2 4..1234567890\n":  {2, api.BadForm},
		rule + "shaft A 1 2 3\n":              {0, api.BadName},
		rule + "shaft 1 1 2 3\n":              {0, api.BadName},
		rule + "shaft a\t 1 2 3\n":            {0, api.BadName},
		rule + "shaft \xff 1 2 3\n":           {0, api.BadName},
		rule + "shaft A 1 2 3\nshaft\n":       {3, api.BadForm},
		rule + "shaft  1 2 3\n":               {2, api.BadForm},
		rule + shaft + shaft:                  {0, api.Twice},
		rule + "arrow a 1 2 3\n":              {2, api.BadForm},
		rule + shaftLines(9):                  {0, api.Fair},
		rule + shaftLines(10):                 {0, api.BadCount},
		rule + shaftLines(10) + "nothing":     {12, api.BadForm},
	} {
		s, line, f := arrow.ParseStock(text)
		if (parsed{line, f}) != want {
			t.Errorf("%q: %d %d", text, line, f)
		}
		if f != api.Fair && !sameStock(s, api.ArrowStock{}) {
			t.Errorf("%q: %v", text, s)
		}
	}
}

// P1.5: the forms of a card's lines, their order, and fouls after them.
func TestParseCardForms(t *testing.T) {
	for text, want := range map[string]parsed{
		"":                              {0, api.BadForm},
		"\n":                            {1, api.BadForm},
		sight:                           {0, api.Fair},
		"sight 1 2 3 4":                 {0, api.Fair},
		"sight 0 0 0 0\n":               {0, api.Fair},
		"sight 2 1 3 4\n":               {0, api.OffLimits},
		"sight 1 2 3\n":                 {1, api.BadForm},
		"sight 1 2 3 4 5\n":             {1, api.BadForm},
		"sight 1..2 2 3 4\n":            {1, api.BadForm},
		sight + sight:                   {2, api.BadForm},
		sight + shot:                    {0, api.Fair},
		sight + shot + shot:             {0, api.Fair},
		sight + shot + sight:            {3, api.BadForm},
		sight + "shot 5 6..7 0 0\n":     {0, api.Fair},
		sight + "shot 5 6..5 0 0\n":     {0, api.OffLimits},
		sight + "shot 5 6..6 0 0\n":     {2, api.BadForm},
		sight + "shot 5 6 0\n":          {2, api.BadForm},
		sight + "shot 5 6 0 0 0\n":      {2, api.BadForm},
		sight + "shot 5 -6 0 0\n":       {0, api.OffLimits},
		sight + "shot 4..5 6 0 0\n":     {2, api.BadForm},
		sight + "shot 5 6 0..1 0\n":     {2, api.BadForm},
		sight + "shot 91 6 0 0\n":       {0, api.OffLimits},
		sight + "shot 5 100000 0 0\n":   {0, api.OffLimits},
		sight + "shot 5 6 0 10\n":       {0, api.OffLimits},
		sight + "\n":                    {2, api.BadForm},
		shot:                            {1, api.BadForm},
		rule:                            {1, api.BadForm},
		sight + shaft:                   {2, api.BadForm},
		sight + strings.Repeat(shot, 8): {0, api.Fair},
		sight + strings.Repeat(shot, 9): {0, api.BadCount},
		sight + strings.Repeat(shot, 9) + "nothing\n": {11, api.BadForm},
	} {
		c, line, f := arrow.ParseCard(text)
		if (parsed{line, f}) != want {
			t.Errorf("%q: %d %d", text, line, f)
		}
		if f != api.Fair && !sameCard(c, api.SightCard{}) {
			t.Errorf("%q: %v", text, c)
		}
	}
}

// P1.5: a text may have just MaxText bytes.
func TestParseLongTexts(t *testing.T) {
	name := func(bytes int) string {
		return rule + "shaft " + strings.Repeat("a", bytes-len(rule)-len("shaft  1 2 3\n")) + " 1 2 3\n"
	}
	for bytes, want := range map[int]api.Foul{api.MaxText: api.BadName, api.MaxText + 1: api.BadCount} {
		if text := name(bytes); len(text) != bytes {
			t.Fatal(len(text))
		}
		if s, line, f := arrow.ParseStock(name(bytes)); !sameStock(s, api.ArrowStock{}) || line != 0 || f != want {
			t.Error(bytes, line, f)
		}
	}
	for bytes, want := range map[int]parsed{api.MaxText: {1, api.BadForm}, api.MaxText + 1: {0, api.BadCount}} {
		for _, letter := range []string{"s", "\n", " ", "ä"} {
			text := strings.Repeat(letter, bytes)[:bytes]
			if s, line, f := arrow.ParseStock(text); !sameStock(s, api.ArrowStock{}) || (parsed{line, f}) != want {
				t.Error(bytes, line, f)
			}
			if c, line, f := arrow.ParseCard(text); !sameCard(c, api.SightCard{}) || (parsed{line, f}) != want {
				t.Error(bytes, line, f)
			}
		}
	}
}
