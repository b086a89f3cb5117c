package face_test

import (
	"math/rand"
	"strings"
	"testing"

	"nock/api"
	"nock/face"
)

const endText = "target 1 each\nring 2 10\nring 4 9\nring 6 8\nspot 0 0\nspot 40 0\nhole 0 1..3 0\nhole 1 40 5..7\nhole 0 0 0..1 100 0\nin 0 1\n"

// P2.4: what is printed, byte for byte, and the fouls.
func TestPrint(t *testing.T) {
	if s, f := face.Print(exampleEnd()); s != endText || f != api.Fair {
		t.Error(s, f)
	}
	e := forAny(withArrows(exampleEnd(), lost(), hole(9, box(-300, -3, -292, -3), box(-1, -2, 1, 0)), api.FaceArrow{Kind: api.FaceIn, Shaft: 2}))
	e.Target.Spots[1] = point(-40, -7)
	want := "target 1 any\nring 2 10\nring 4 9\nring 6 8\nspot 0 0\nspot -40 -7\nlost 0\nhole 9 -300..-292 -3 -1..1 -2..0\nin 2 0\n"
	if s, f := face.Print(e); s != want || f != api.Fair {
		t.Error(s, f)
	}
	bare := api.FaceEnd{Target: api.FaceTarget{Rings: []api.FaceRing{{Radius: 120, Value: 1}}, Spots: []api.FacePoint{{}}}}
	if s, f := face.Print(bare); s != "target 0 any\nring 120 1\nspot 0 0\n" || f != api.Fair {
		t.Error(s, f)
	}
	if s, f := face.Print(api.FaceEnd{}); s != "" || f != api.BadCount {
		t.Error(s, f)
	}
	bad := exampleEnd()
	bad.Arrows[3].In = 3
	if s, f := face.Print(bad); s != "" || f != api.Unknown {
		t.Error(s, f)
	}
}

// P2.4: what is read, with the last line feed and without.
func TestParse(t *testing.T) {
	for _, text := range []string{endText, strings.TrimSuffix(endText, "\n")} {
		if e, line, f := face.Parse(text); !sameEnd(e, exampleEnd()) || line != 0 || f != api.Fair {
			t.Error(e, line, f)
		}
	}
	text := "target 0 any\nring 3 7\nspot -5 6\nlost 4\nhole 2 -1..1 5 0 0..8\nin 3 1\nin 0 2\n"
	want := api.FaceEnd{
		Target: api.FaceTarget{Rings: []api.FaceRing{{Radius: 3, Value: 7}}, Spots: []api.FacePoint{point(-5, 6)}},
		Arrows: []api.FaceArrow{{Kind: api.FaceLost, Shaft: 4}, hole(2, box(-1, 5, 1, 5), box(0, 0, 0, 8)), {Kind: api.FaceIn, Shaft: 3, In: 1}, in(2)},
	}
	if e, line, f := face.Parse(text); !sameEnd(e, want) || line != 0 || f != api.Fair {
		t.Error(e, line, f)
	}
}

// P2.4: what is printed is parsed as it was, and printed again it is the same text.
func TestRoundTrip(t *testing.T) {
	r := rand.New(rand.NewSource(71))
	for range 300 {
		e := randomEnd(r)
		text, f := face.Print(e)
		fair(t, f)
		o, line, f := face.Parse(text)
		if !sameEnd(o, e) || line != 0 || f != api.Fair {
			t.Fatal(e, text, o, line, f)
		}
		if again, f := face.Print(o); again != text || f != api.Fair {
			t.Fatal(text, again, f)
		}
	}
}

type parsed struct {
	line int
	f    api.Foul
}

const (
	head  = "target 0 any\n"
	ring  = "ring 2 5\n"
	spot0 = "spot 0 0\n"
	bare  = head + ring + spot0
	lost0 = "lost 0\n"
	hole0 = "hole 0 1 2\n"
	in0   = "in 0 0\n"
)

func checkForms(t *testing.T, texts map[string]parsed) {
	t.Helper()
	for text, want := range texts {
		e, line, f := face.Parse(text)
		if (parsed{line, f}) != want {
			t.Errorf("%q: %d %d", text, line, f)
		}
		if f != api.Fair && !sameEnd(e, api.FaceEnd{}) {
			t.Errorf("%q: %v", text, e)
		}
	}
}

// P2.4: which lines stand where, and the fouls of an end after all lines.
func TestParseOrder(t *testing.T) {
	checkForms(t, map[string]parsed{
		"":                                     {0, api.BadForm},
		"\n":                                   {1, api.BadForm},
		"\n\n":                                 {1, api.BadForm},
		" ":                                    {1, api.BadForm},
		bare:                                   {0, api.Fair},
		bare + hole0 + in0 + lost0:             {0, api.Fair},
		bare + lost0 + in0 + hole0:             {0, api.Fair},
		bare + "\n":                            {4, api.BadForm},
		"\n" + bare:                            {1, api.BadForm},
		head + "\n" + ring + spot0:             {2, api.BadForm},
		head:                                   {0, api.BadCount},
		head + ring:                            {0, api.BadCount},
		head + spot0:                           {0, api.BadCount},
		head + hole0:                           {0, api.BadCount},
		head + ring + hole0:                    {0, api.BadCount},
		ring:                                   {1, api.BadForm},
		spot0:                                  {1, api.BadForm},
		hole0:                                  {1, api.BadForm},
		ring + head + spot0:                    {1, api.BadForm},
		head + head:                            {2, api.BadForm},
		bare + head:                            {4, api.BadForm},
		bare + bare:                            {4, api.BadForm},
		head + spot0 + ring:                    {3, api.BadForm},
		bare + ring:                            {4, api.BadForm},
		bare + hole0 + spot0:                   {5, api.BadForm},
		bare + in0 + spot0:                     {5, api.BadForm},
		bare + lost0 + ring:                    {5, api.BadForm},
		bare + lost0 + "\n" + lost0:            {5, api.BadForm},
		bare + "nothing\n" + head:              {4, api.BadForm},
		bare + ring + "nothing\n":              {4, api.BadForm},
		bare + "spot 0 0\n":                    {0, api.Against},
		bare + "spot 50 0\n" + hole0:           {0, api.Fair},
		head + ring + ring + spot0:             {0, api.OutOfOrder},
		head + ring + "ring 3 4\n" + spot0:     {0, api.Fair},
		bare + in0:                             {0, api.Unknown},
		bare + strings.Repeat(lost0, 4):        {0, api.Fair},
		bare + strings.Repeat(lost0, 5):        {0, api.BadCount},
		bare + strings.Repeat(lost0, 5) + "x":  {9, api.BadForm},
		head + ring + strings.Repeat(spot0, 4): {0, api.BadCount},
		"target 3 any\n" + ring + spot0:        {0, api.OffLimits},
		"target 3 any\n" + ring + spot0 + "x":  {4, api.BadForm},
	})
}

// P2.4: the forms of lines.
func TestParseForms(t *testing.T) {
	checkForms(t, map[string]parsed{
		"target 0 each\n" + ring + spot0:          {0, api.Fair},
		"target 0 some\n" + ring + spot0:          {1, api.BadForm},
		"target 0 Each\n" + ring + spot0:          {1, api.BadForm},
		"target 0 each any\n" + ring + spot0:      {1, api.BadForm},
		"target each 0\n" + ring + spot0:          {1, api.BadForm},
		"target 0\n" + ring + spot0:               {1, api.BadForm},
		"target any\n" + ring + spot0:             {1, api.BadForm},
		"target\n" + ring + spot0:                 {1, api.BadForm},
		"target x any\n" + ring + spot0:           {1, api.BadForm},
		"target 0..1 any\n" + ring + spot0:        {1, api.BadForm},
		"target -1 any\n" + ring + spot0:          {0, api.OffLimits},
		"target -0 any\n" + ring + spot0:          {1, api.BadForm},
		"target +0 any\n" + ring + spot0:          {1, api.BadForm},
		"target 00 any\n" + ring + spot0:          {1, api.BadForm},
		"target - any\n" + ring + spot0:           {1, api.BadForm},
		"target --1 any\n" + ring + spot0:         {1, api.BadForm},
		"target -01 any\n" + ring + spot0:         {1, api.BadForm},
		"target 1_0 any\n" + ring + spot0:         {1, api.BadForm},
		"target 0x1 any\n" + ring + spot0:         {1, api.BadForm},
		"target 999999999 any\n" + ring + spot0:   {0, api.OffLimits},
		"target -999999999 any\n" + ring + spot0:  {0, api.OffLimits},
		"target 1000000000 any\n" + ring + spot0:  {1, api.BadForm},
		"target -1000000000 any\n" + ring + spot0: {1, api.BadForm},
		"target 99999999999999999999 any\n":       {1, api.BadForm},
		"target  0 any\n" + ring + spot0:          {1, api.BadForm},
		" target 0 any\n" + ring + spot0:          {1, api.BadForm},
		"target 0 any \n" + ring + spot0:          {1, api.BadForm},
		"target 0\tany\n" + ring + spot0:          {1, api.BadForm},
		"target 0 any\r\n" + ring + spot0:         {1, api.BadForm},
		"Target 0 any\n" + ring + spot0:           {1, api.BadForm},
		head + "ring 2\n" + spot0:                 {2, api.BadForm},
		head + "ring 2 5 1\n" + spot0:             {2, api.BadForm},
		head + "ring 2 x\n" + spot0:               {2, api.BadForm},
		head + "ring 2..3 5\n" + spot0:            {2, api.BadForm},
		head + "rings 2 5\n" + spot0:              {2, api.BadForm},
		head + ring + "spot 0\n":                  {3, api.BadForm},
		head + ring + "spot 0 0 0\n":              {3, api.BadForm},
		head + ring + "spot 0 0..1\n":             {3, api.BadForm},
		head + ring + "spot -300 300\n":           {0, api.Fair},
		head + ring + "spot -301 300\n":           {0, api.OffLimits},
		bare + "in 0\n":                           {4, api.BadForm},
		bare + lost0 + "in 0 0\n":                 {0, api.Fair},
		bare + lost0 + "in 0 0 0\n":               {5, api.BadForm},
		bare + lost0 + "in 9 0\n":                 {0, api.Fair},
		bare + lost0 + "in 10 0\n":                {0, api.OffLimits},
		bare + lost0 + "in 0 -1\n":                {0, api.Unknown},
		bare + lost0 + "in 0 0..1\n":              {5, api.BadForm},
		bare + "lost\n":                           {4, api.BadForm},
		bare + "lost 0 0\n":                       {4, api.BadForm},
		bare + "lost 00\n":                        {4, api.BadForm},
		bare + "lost 0..1\n":                      {4, api.BadForm},
		bare + "lost 10\n":                        {0, api.OffLimits},
		bare + "lost  0\n":                        {4, api.BadForm},
		bare + "lost 0 \n":                        {4, api.BadForm},
		bare + "arrow 0\n":                        {4, api.BadForm},
		bare + "\xff 0\n":                         {4, api.BadForm},
		bare + "hole\n":                           {4, api.BadForm},
	})
}

// P2.4: the forms of a hole's line.
func TestParseHole(t *testing.T) {
	texts := make(map[string]parsed)
	for fields, want := range map[string]api.Foul{
		"":                     api.BadForm,
		" 0":                   api.BadForm,
		" 0 1":                 api.BadForm,
		" 0 1 2":               api.Fair,
		" 0 1 2 3":             api.BadForm,
		" 0 1 2 3 4":           api.Fair,
		" 0 1 2 3 4 5":         api.BadForm,
		" 0 1 2 3 4 5 6":       api.BadCount,
		" 0 1..2 3..4":         api.Fair,
		" 0 -2..-1 -4..3":      api.Fair,
		" 0 1..1 1":            api.BadForm,
		" 0 -1..-1 1":          api.BadForm,
		" 0 2..1 1":            api.OffLimits,
		" 0 1 2..1":            api.OffLimits,
		" 0 1 0..8":            api.Fair,
		" 0 1 0..9":            api.OffLimits,
		" 0 1.. 1":             api.BadForm,
		" 0 ..1 1":             api.BadForm,
		" 0 .. 1":              api.BadForm,
		" 0 1...2 1":           api.BadForm,
		" 0 1..2..3 1":         api.BadForm,
		" 0 1.2 1":             api.BadForm,
		" 0 01..2 1":           api.BadForm,
		" 0 1..02 1":           api.BadForm,
		" 0 -0..2 1":           api.BadForm,
		" 0 1..+2 1":           api.BadForm,
		" 0 1..1234567890 1":   api.BadForm,
		" 0 300 -300":          api.Fair,
		" 0 301 -300":          api.OffLimits,
		" 0 300 -301":          api.OffLimits,
		" 9 1 2":               api.Fair,
		" 10 1 2":              api.OffLimits,
		" -1 1 2":              api.OffLimits,
		" 0..1 1 2":            api.BadForm,
		" 0 1 2 x":             api.BadForm,
		" 0 1 2  3 4":          api.BadForm,
		" 0 1 2 ":              api.BadForm,
		" 0 999999999 1":       api.OffLimits,
		" 0 -999999999..0 1":   api.OffLimits,
		" 0 1 2 3 4 5 6 7 8":   api.BadCount,
		" 0 1 2 3 4 5 6 7 8 9": api.BadForm,
	} {
		line := 0
		if want == api.BadForm {
			line = 4
		}
		texts[bare+"hole"+fields+"\n"] = parsed{line, want}
	}
	checkForms(t, texts)
}

// P2.4: a text may have just MaxText bytes.
func TestParseLongTexts(t *testing.T) {
	for bytes, want := range map[int]parsed{api.MaxText: {1, api.BadForm}, api.MaxText + 1: {0, api.BadCount}} {
		for _, letter := range []string{"t", "\n", " ", "ä"} {
			text := strings.Repeat(letter, bytes)[:bytes]
			if e, line, f := face.Parse(text); (parsed{line, f}) != want || !sameEnd(e, api.FaceEnd{}) {
				t.Error(bytes, line, f)
			}
		}
	}
	// Very many arrows, or boxes of one arrow, have their form.
	arrows := bare + strings.Repeat(lost0, (api.MaxText-len(bare))/len(lost0))
	boxes := bare + "hole 0" + strings.Repeat(" 1 1", (api.MaxText-len(bare)-len("hole 0"))/len(" 1 1"))
	for _, text := range []string{arrows, boxes} {
		if e, line, f := face.Parse(text); line != 0 || f != api.BadCount || !sameEnd(e, api.FaceEnd{}) {
			t.Error(line, f)
		}
	}
	if _, line, f := face.Parse(arrows[:len(arrows)-2] + "\n"); line != strings.Count(arrows, "\n") || f != api.BadForm {
		t.Error(line, f)
	}
	if _, line, f := face.Parse(boxes[:len(boxes)-2]); line != 4 || f != api.BadForm {
		t.Error(line, f)
	}
}
