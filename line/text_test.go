package line_test

import (
	"math/rand"
	"slices"
	"strings"
	"testing"

	"nock/api"
	"nock/line"
)

const exampleText = "plan 2 1\nperson ann 0\nperson bob 1\nstep call back\nstep shoot nobody\nstep stop free\nstep clear empty\nwatch 10 50 3\narcher ann 0\nshot 5..12 9\nshot 20 10\nshot 15..30 8\nshot 45..60 11\narcher cid 20\nshot 65 7\n"

// greatWatch is as great as a watch may be.
func greatWatch() api.LineWatch {
	w := api.LineWatch{Open: 0, Shut: 999, Count: 6}
	for _, letter := range letters {
		a := api.LineArcher{Name: letter + "bcdefghijk0", Extra: 300}
		for range 6 {
			a.Shots = append(a.Shots, shot(span(0, 999), 11))
		}
		w.Archers = append(w.Archers, a)
	}
	return w
}

// P6.5: what is printed, byte for byte.
func TestPrint(t *testing.T) {
	empty := api.LineWatch{Open: 0, Shut: 0, Count: 1}
	for _, x := range []struct {
		p    api.LinePlan
		w    api.LineWatch
		want string
	}{
		{examplePlan(), exampleWatch(), exampleText},
		{api.LinePlan{Posts: 1, Steps: []api.LineStep{step(api.LineCall, api.LineFree)}}, empty, "plan 1 -\nstep call free\nwatch 0 0 1\n"},
		{withPlan(func(p *api.LinePlan) { p.Posts, p.Fails, p.People, p.Steps = 3, list(0, 1, 2), nil, p.Steps[2:3] }), empty, "plan 3 0/1/2\nstep stop free\nwatch 0 0 1\n"},
		{withPlan(func(p *api.LinePlan) { p.Fails, p.People, p.Steps = list(0, 1), p.People[1:], p.Steps[:2] }),
			api.LineWatch{Open: 1, Shut: 999, Count: 6, Archers: []api.LineArcher{{Name: "a0", Extra: 300}, {Name: "b", Shots: []api.LineShot{shot(span(0, 0), 0), shot(span(0, 999), 11)}}}},
			"plan 2 0/1\nperson bob 1\nstep call back\nstep shoot nobody\nwatch 1 999 6\narcher a0 300\narcher b 0\nshot 0 0\nshot 0..999 11\n"},
	} {
		if s, f := line.Print(x.p, x.w); s != x.want || f != api.Fair {
			t.Error(s, f)
		}
	}
}

// P6.5: the words of signals and needs.
func TestPrintWords(t *testing.T) {
	for s, signal := range map[api.LineSignal]string{api.LineCall: "call", api.LineShoot: "shoot", api.LineStop: "stop", api.LineClear: "clear"} {
		for n, need := range map[api.LineNeed]string{api.LineFree: "free", api.LineNobody: "nobody", api.LineEmpty: "empty", api.LineBack: "back"} {
			p := api.LinePlan{Posts: 1, Steps: []api.LineStep{step(s, n)}}
			text, f := line.Print(p, api.LineWatch{Count: 1})
			if want := "plan 1 -\nstep " + signal + " " + need + "\nwatch 0 0 1\n"; text != want || f != api.Fair {
				t.Error(text, f)
			}
			if o, _, n, f := line.Parse(text); !samePlan(o, p) || n != 0 || f != api.Fair {
				t.Error(text, o, n, f)
			}
		}
	}
}

// P6.5: the foul of the plan comes before that of the watch.
func TestPrintFouls(t *testing.T) {
	bad := withPlan(func(p *api.LinePlan) { p.People[0].Name = "" })
	worse := withWatch(func(w *api.LineWatch) { w.Shut = 0 })
	for _, x := range []struct {
		p    api.LinePlan
		w    api.LineWatch
		want api.Foul
	}{
		{api.LinePlan{}, api.LineWatch{}, api.OffLimits},
		{bad, worse, api.BadName},
		{bad, exampleWatch(), api.BadName},
		{examplePlan(), worse, api.OutOfOrder},
		{examplePlan(), withWatch(func(w *api.LineWatch) { w.Archers[0].Shots[3].At = span(0, 19) }), api.Against},
	} {
		if s, f := line.Print(x.p, x.w); s != "" || f != x.want {
			t.Error(x, s, f)
		}
	}
}

// P6.5: what is read, with the last line feed and without.
func TestParse(t *testing.T) {
	for _, text := range []string{exampleText, strings.TrimSuffix(exampleText, "\n")} {
		p, w, n, f := line.Parse(text)
		if !samePlan(p, examplePlan()) || !sameWatch(w, exampleWatch()) || n != 0 || f != api.Fair {
			t.Error(p, w, n, f)
		}
	}
}

// P6.5: what is printed is parsed as it was, and printed again it is the same text.
func TestRoundTrip(t *testing.T) {
	r := rand.New(rand.NewSource(61))
	plans, watches := []api.LinePlan{greatPlan()}, []api.LineWatch{greatWatch()}
	for range 500 {
		plans, watches = append(plans, randomPlan(r, 3, 5)), append(watches, randomWatch(r, 6, 1000, 50))
	}
	for i, p := range plans {
		text, f := line.Print(p, watches[i])
		fair(t, f)
		o, w, n, f := line.Parse(text)
		if !samePlan(o, p) || !sameWatch(w, watches[i]) || n != 0 || f != api.Fair {
			t.Fatal(p, watches[i], text, o, w, n, f)
		}
		if again, f := line.Print(o, w); again != text || f != api.Fair {
			t.Fatal(text, again, f)
		}
	}
}

type parsed struct {
	line int
	f    api.Foul
}

const (
	plan   = "plan 1 -\n"
	person = "person a 0\n"
	call   = "step call free\n"
	watch  = "watch 0 5 1\n"
	archer = "archer a 0\n"
	shot1  = "shot 1 1\n"
	head   = plan + call
	whole  = head + watch
)

func checkForms(t *testing.T, texts map[string]parsed) {
	t.Helper()
	for text, want := range texts {
		p, w, n, f := line.Parse(text)
		if (parsed{n, f}) != want {
			t.Errorf("%q: %d %d", text, n, f)
		}
		if f != api.Fair && (!samePlan(p, api.LinePlan{}) || !sameWatch(w, api.LineWatch{})) {
			t.Errorf("%q: %v %v", text, p, w)
		}
	}
}

// P6.5: which lines stand where.
func TestParseOrder(t *testing.T) {
	checkForms(t, map[string]parsed{
		"":                              {0, api.BadForm},
		"\n":                            {1, api.BadForm},
		"\n\n":                          {1, api.BadForm},
		" ":                             {1, api.BadForm},
		"x":                             {1, api.BadForm},
		plan:                            {0, api.BadForm},
		plan + "\n":                     {2, api.BadForm},
		"\n" + whole:                    {1, api.BadForm},
		plan + plan:                     {2, api.BadForm},
		plan + person:                   {0, api.BadForm},
		head:                            {0, api.BadForm},
		"plan 0 -\n":                    {0, api.BadForm},
		plan + person + plan:            {3, api.BadForm},
		head + plan + watch:             {3, api.BadForm},
		head + person + watch:           {3, api.BadForm},
		head + "\n" + watch:             {3, api.BadForm},
		head + archer + watch:           {3, api.BadForm},
		head + shot1 + watch:            {3, api.BadForm},
		plan + archer:                   {2, api.BadForm},
		plan + shot1:                    {2, api.BadForm},
		plan + person + archer:          {3, api.BadForm},
		plan + person + shot1:           {3, api.BadForm},
		plan + watch:                    {0, api.BadCount},
		plan + person + watch:           {0, api.BadCount},
		whole:                           {0, api.Fair},
		plan + person + call + watch:    {0, api.Fair},
		plan + call + call + watch:      {0, api.Fair},
		whole + "\n":                    {4, api.BadForm},
		whole + plan:                    {4, api.BadForm},
		whole + person:                  {4, api.BadForm},
		whole + call:                    {4, api.BadForm},
		whole + watch:                   {4, api.BadForm},
		whole + shot1:                   {4, api.BadForm},
		whole + archer:                  {0, api.Fair},
		whole + archer + shot1:          {0, api.Fair},
		whole + archer + shot1 + shot1:  {0, api.Fair},
		whole + archer + "archer b 0\n": {0, api.Fair},
		whole + archer + archer:         {0, api.Twice},
		whole + archer + shot1 + archer: {0, api.Twice},
		whole + archer + "archer b 0\n" + shot1 + "archer c 0\n" + shot1: {0, api.Fair},
		whole + archer + plan:          {5, api.BadForm},
		whole + archer + person:        {5, api.BadForm},
		whole + archer + call:          {5, api.BadForm},
		whole + archer + watch:         {5, api.BadForm},
		whole + archer + "\n":          {5, api.BadForm},
		whole + archer + shot1 + plan:  {6, api.BadForm},
		whole + archer + shot1 + call:  {6, api.BadForm},
		whole + archer + shot1 + watch: {6, api.BadForm},
		whole + archer + shot1 + "\n":  {6, api.BadForm},
		person:                         {1, api.BadForm},
		call:                           {1, api.BadForm},
		watch:                          {1, api.BadForm},
		archer:                         {1, api.BadForm},
		shot1:                          {1, api.BadForm},
		watch + head:                   {1, api.BadForm},
		"nothing\n" + whole:            {1, api.BadForm},
		head + "nothing\n" + watch:     {3, api.BadForm},
		whole + "nothing":              {4, api.BadForm},
		head + "nothing\nnothing\n":    {3, api.BadForm},
		head + person + "nothing\n":    {3, api.BadForm},
	})
}

// P6.5: fouls of the plan and then of the watch, after all lines.
func TestParseFouls(t *testing.T) {
	checkForms(t, map[string]parsed{
		"plan 0 -\n" + call + watch:                                    {0, api.OffLimits},
		"plan 0 -\n" + call + watch + "x":                              {4, api.BadForm},
		"plan 4 -\n" + call + watch:                                    {0, api.OffLimits},
		"plan -1 -\n" + call + "watch 0 5 0\n":                         {0, api.OffLimits},
		"plan 1 0\n" + call + watch:                                    {0, api.Fair},
		"plan 1 1\n" + call + watch:                                    {0, api.Unknown},
		"plan 2 0/0\n" + call + watch:                                  {0, api.OutOfOrder},
		"plan 2 -1\n" + call + watch:                                   {0, api.Unknown},
		"plan 1 1\n" + call + "watch 5 0 0\n":                          {0, api.Unknown},
		plan + "person A 0\n" + call + watch:                           {0, api.BadName},
		plan + "person - 0\n" + call + watch:                           {0, api.BadName},
		plan + "person \xff 0\n" + call + watch:                        {0, api.BadName},
		plan + person + person + call + watch:                          {0, api.Twice},
		plan + "person a 1\n" + call + watch:                           {0, api.Unknown},
		plan + "person a -1\n" + call + "watch 5 0 0\n":                {0, api.Unknown},
		plan + "person a 0\nperson b 0\nperson c 0\n" + call + watch:   {0, api.Fair},
		plan + strings.Repeat(person, 4) + call + watch:                {0, api.BadCount},
		plan + strings.Repeat(call, 5) + watch:                         {0, api.Fair},
		plan + strings.Repeat(call, 6) + watch:                         {0, api.BadCount},
		head + "watch 5 0 1\n":                                         {0, api.OutOfOrder},
		head + "watch -1 0 1\n":                                        {0, api.OffLimits},
		head + "watch 0 1000 1\n":                                      {0, api.OffLimits},
		head + "watch 0 5 0\n":                                         {0, api.OffLimits},
		head + "watch 0 5 7\n":                                         {0, api.OffLimits},
		head + "watch 0 5 7\n" + shot1:                                 {4, api.BadForm},
		whole + "archer A 0\n":                                         {0, api.BadName},
		whole + "archer a -1\n":                                        {0, api.OffLimits},
		whole + "archer a 301\n":                                       {0, api.OffLimits},
		whole + "archer a 300\n":                                       {0, api.Fair},
		whole + archer + strings.Repeat(shot1, 6):                      {0, api.Fair},
		whole + archer + strings.Repeat(shot1, 7):                      {0, api.BadCount},
		whole + archer + "archer b 0\narcher c 0\narcher d 0\n":        {0, api.Fair},
		whole + archer + strings.Repeat(archer, 4):                     {0, api.BadCount},
		whole + archer + "shot 2..1 1\n":                               {0, api.OffLimits},
		whole + archer + "shot 1..1000 1\n":                            {0, api.OffLimits},
		whole + archer + "shot -1..1 1\n":                              {0, api.OffLimits},
		whole + archer + "shot 1 12\n":                                 {0, api.OffLimits},
		whole + archer + "shot 1 -1\n":                                 {0, api.OffLimits},
		whole + archer + "shot 2 1\nshot 1 1\n":                        {0, api.Against},
		whole + archer + "shot 2 1\n" + "archer b 0\nshot 1 1\n":       {0, api.Fair},
		whole + archer + "shot 2 1\nshot 1 1\n" + archer + "shot 1 1x": {8, api.BadForm},
	})
}

// P6.5, R9: the forms of words, numbers and blanks.
func TestParseForms(t *testing.T) {
	texts := map[string]parsed{
		head + "watch 0 5 1": {0, api.Fair},
	}
	before := map[string]string{"plan": "", "person": plan, "step": plan, "watch": head, "archer": whole, "shot": whole + archer}
	after := map[string]string{"plan": call + watch, "person": call + watch, "step": watch}
	for form, want := range map[string]api.Foul{
		"plan": api.BadForm, "plan ": api.BadForm, "plan 1": api.BadForm, "plan 1 ": api.BadForm, "plan 1 -": api.Fair, "plan 1 - ": api.BadForm, "plan 1 - -": api.BadForm, "plan  1 -": api.BadForm, "plan 1  -": api.BadForm, " plan 1 -": api.BadForm, "plan - 1": api.BadForm, "plan - -": api.BadForm, "plan x -": api.BadForm, "plan 1 x": api.BadForm, "Plan 1 -": api.BadForm, "plans 1 -": api.BadForm, "plan\t1 -": api.BadForm, "plan 1 -\r": api.BadForm, "plan 1 -\x00": api.BadForm, "plan 1..2 -": api.BadForm, "plan 1/2 -": api.BadForm,
		"plan 01 -": api.BadForm, "plan +1 -": api.BadForm, "plan -0 -": api.BadForm, "plan --1 -": api.BadForm, "plan 0x1 -": api.BadForm, "plan 1_0 -": api.BadForm, "plan 1.0 -": api.BadForm, "plan 999999999 -": api.OffLimits, "plan -999999999 -": api.OffLimits, "plan 1000000000 -": api.BadForm, "plan -1000000000 -": api.BadForm, "plan 99999999999999999999 -": api.BadForm,
		"plan 3 0/1/2": api.Fair, "plan 3 0/2": api.Fair, "plan 3 2": api.Fair, "plan 3 0/1/2/3": api.Unknown, "plan 3 1/0": api.OutOfOrder, "plan 3 -1/0": api.Unknown, "plan 3 0/-1": api.Unknown, "plan 3 999999999": api.Unknown, "plan 3 1000000000": api.BadForm, "plan 3 /": api.BadForm, "plan 3 0/": api.BadForm, "plan 3 /0": api.BadForm, "plan 3 0//1": api.BadForm, "plan 3 0/-": api.BadForm, "plan 3 -/0": api.BadForm, "plan 3 --": api.BadForm, "plan 3 0,1": api.BadForm, "plan 3 00": api.BadForm, "plan 3 0/01": api.BadForm, "plan 3 0..1": api.BadForm, "plan 3 0/ 1": api.BadForm, "plan 3 0 /1": api.BadForm, "plan 3 0/x": api.BadForm,
		"person": api.BadForm, "person ": api.BadForm, "person a": api.BadForm, "person a ": api.BadForm, "person a 0": api.Fair, "person a 0 0": api.BadForm, "person a 0 ": api.BadForm, "person  a 0": api.BadForm, "person a x": api.BadForm, "person a -": api.BadForm, "person a 00": api.BadForm, "person 0 a": api.BadForm, "person 0 0": api.BadName, "Person a 0": api.BadForm, "people a 0": api.BadForm, "person a/b 0": api.BadName, "person ä 0": api.BadName, "person a\r 0": api.BadName, "person a 0\r": api.BadForm,
		"step": api.BadForm, "step call": api.BadForm, "step call ": api.BadForm, "step  free": api.BadForm, "step call free": api.Fair, "step shoot nobody": api.Fair, "step stop empty": api.Fair, "step clear back": api.Fair, "step free call": api.BadForm, "step call call": api.BadForm, "step free free": api.BadForm, "step none free": api.BadForm, "step call any": api.BadForm, "step Call free": api.BadForm, "step call Free": api.BadForm, "step call free free": api.BadForm, "step call free ": api.BadForm, "step call  free": api.BadForm, "step calls free": api.BadForm, "step call freed": api.BadForm, "step 1 0": api.BadForm, "step call 0": api.BadForm, "step cal free": api.BadForm, "step - free": api.BadForm, "step call -": api.BadForm, "steps call free": api.BadForm,
		"watch": api.BadForm, "watch 0": api.BadForm, "watch 0 5": api.BadForm, "watch 0 5 ": api.BadForm, "watch 0 5 1 1": api.BadForm, "watch 0  5 1": api.BadForm, "watch 0..5 1": api.BadForm, "watch 0..5 1 1": api.BadForm, "watch x 5 1": api.BadForm, "watch 0 x 1": api.BadForm, "watch 0 5 x": api.BadForm, "watch 00 5 1": api.BadForm, "watch 0 05 1": api.BadForm, "watch 0 5 01": api.BadForm, "watch 0 5 -": api.BadForm, "Watch 0 5 1": api.BadForm, "watch 1 2 3": api.Fair, "watch 1 3 2": api.Fair, "watch 3 2 1": api.OutOfOrder, "watch 0 999999999 1": api.OffLimits,
		"archer": api.BadForm, "archer a": api.BadForm, "archer a ": api.BadForm, "archer a 0": api.Fair, "archer a 0 0": api.BadForm, "archer a x": api.BadForm, "archer a -": api.BadForm, "archer a -1": api.OffLimits, "archer a 0..1": api.BadForm, "archer 0 a": api.BadForm, "archer 0 0": api.BadName, "archers a 0": api.BadForm, "archer  a 0": api.BadForm,
		"shot": api.BadForm, "shot 1": api.BadForm, "shot 1 ": api.BadForm, "shot 1 1": api.Fair, "shot 1 1 1": api.BadForm, "shot 1..2 1": api.Fair, "shot 0..999 11": api.Fair, "shot 1..1 1": api.BadForm, "shot 2..1 1": api.OffLimits, "shot -1..-1 1": api.BadForm, "shot -2..-1 1": api.OffLimits, "shot -1 1": api.OffLimits, "shot 1.. 1": api.BadForm, "shot ..1 1": api.BadForm, "shot .. 1": api.BadForm, "shot 1...2 1": api.BadForm, "shot 1..2..3 1": api.BadForm, "shot 1.2 1": api.BadForm, "shot 01..2 1": api.BadForm, "shot 1..02 1": api.BadForm, "shot -0..2 1": api.BadForm, "shot 1..+2 1": api.BadForm, "shot 1..1234567890 1": api.BadForm, "shot 1..123456789 1": api.OffLimits, "shot - 1": api.BadForm, "shot 1/2 1": api.BadForm, "shot 1 1..2": api.BadForm, "shot 1 -": api.BadForm, "shot 1 01": api.BadForm, "shot x 1": api.BadForm, "shot 1 x": api.BadForm, "shot 1 x ": api.BadForm, "shots 1 1": api.BadForm, "shot  1 1": api.BadForm, "shot 1  1": api.BadForm,
	} {
		word := strings.TrimRight(strings.ToLower(strings.Fields(form)[0]), "s")
		if word == "people" {
			word = "person"
		}
		number := 0
		if want == api.BadForm {
			number = strings.Count(before[word], "\n") + 1
		}
		texts[before[word]+form+"\n"+after[word]] = parsed{number, want}
	}
	checkForms(t, texts)
}

// P6.5: a text may have just MaxText bytes.
func TestParseLongTexts(t *testing.T) {
	for bytes, want := range map[int]parsed{api.MaxText: {1, api.BadForm}, api.MaxText + 1: {0, api.BadCount}} {
		for _, letter := range []string{"p", "\n", " ", "/", "ä"} {
			text := strings.Repeat(letter, bytes)[:bytes]
			if p, w, n, f := line.Parse(text); (parsed{n, f}) != want || !samePlan(p, api.LinePlan{}) || !sameWatch(w, api.LineWatch{}) {
				t.Error(bytes, n, f)
			}
		}
	}
	// Very many people, steps, archers, shots or posts that fail have their form.
	for _, x := range []struct {
		before, part, after string
		want                api.Foul
	}{
		{plan, person, call + watch, api.BadCount}, {plan, call, watch, api.BadCount}, {whole, archer, "", api.BadCount},
		{whole + archer, shot1, "", api.BadCount}, {"plan 1 0", "/0", "\n" + call + watch, api.OutOfOrder},
	} {
		text := x.before + strings.Repeat(x.part, (api.MaxText-len(x.before)-len(x.after))/len(x.part)) + x.after
		if p, w, n, f := line.Parse(text); n != 0 || f != x.want || !samePlan(p, api.LinePlan{}) || !sameWatch(w, api.LineWatch{}) {
			t.Error(x, n, f)
		}
		lines := strings.Split(strings.TrimSuffix(text, "\n"), "\n")
		lines[len(lines)-1] = "x"
		if _, _, n, f := line.Parse(strings.Join(lines, "\n")); n != len(lines) || f != api.BadForm {
			t.Error(x, n, f)
		}
	}
}

// R4: what is read of a text shares no memory.
func TestParseSharesNothing(t *testing.T) {
	for range 2 {
		p, w, _, f := line.Parse(exampleText)
		fair(t, f)
		if !samePlan(p, examplePlan()) || !sameWatch(w, exampleWatch()) {
			t.Fatal(p, w)
		}
		p.Fails[0], p.People[0].Name, p.Steps[0].Need = 7, "x", 7
		a := w.Archers[0].Shots
		_ = append(a, shot(span(7, 7), 7))
		a[0].Number = 7
		if !slices.Equal(w.Archers[1].Shots, []api.LineShot{shot(span(65, 65), 7)}) {
			t.Fatal(w)
		}
	}
}
