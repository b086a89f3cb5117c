package club_test

import (
	"math/rand"
	"slices"
	"strings"
	"testing"

	"nock/api"
	"nock/club"
)

const logText = "shoot ann 9\nwithdraw ann\nresult 4 0 4 30/29/28/27 5/6\nmeasure d spine 400..410\nlook 0 1 10\ntell 1 10/7/6\nhole 0 2..3 -1\ngive 0/1\ngo ann on\ndelay 0/12\nlearn judges 1 3..9\ngone 1 220\nback 1\nagain 2\n"

func exampleLog() []api.ClubCommand {
	return commands(shoot("ann", 9), withdraw("ann"), result(4, 0, 4, list(30, 29, 28, 27), list(5, 6)), measure("d", 0, span(400, 410)), look(0, 1, 10), tell(1, 10, 7, 6), hole(0, span(2, 3), only(-1)), give(0, 1), goes("ann", 1), delay(0, 12), learn(1, 1, span(3, 9)), gone(1, 220), back(1), again(2))
}

// P10.3: what is written of commands, byte for byte.
func TestWriteLog(t *testing.T) {
	for text, l := range map[string][]api.ClubCommand{
		"":      nil,
		logText: exampleLog(),
		"measure a length 5\nmeasure a weight -5..5\ngo b behind\ngo b before\nlearn length 0 1\nlearn papers 0 0..1\n": commands(measure("a", 1, only(5)), measure("a", 2, span(-5, 5)), goes("b", 0), goes("b", 2), learn(2, 0, only(1)), learn(3, 0, span(0, 1))),
		"give -\ndelay -\ntell -1 -\nlook 0 0 -\nresult 1 2 3 - -\nresult -1 0 0 - 1/2\n":                               commands(give(), delay(), tell(-1), look(0, 0), result(1, 2, 3, nil, nil), result(-1, 0, 0, nil, list(1, 2))),
		"hole 1 5..3 2..-2\nmeasure abcdefghij01 spine 999999999..-999999999\nback -999999999\nagain 0\nshoot a -1\n":   commands(hole(1, span(5, 3), span(2, -2)), measure("abcdefghij01", 0, span(999999999, -999999999)), back(-999999999), again(0), shoot("a", -1)),
	} {
		if s, f := club.WriteLog(l); s != text || f != ok {
			t.Error(s, f)
		}
		for _, s := range []string{text, strings.TrimSuffix(text, "\n")} {
			if o, n, f := club.ReadLog(s); !same(o, l) || n != 0 || f != ok {
				t.Error(s, o, n, f)
			}
		}
	}
}

// P10.3: what is not written.
func TestWriteLogFouls(t *testing.T) {
	for i, x := range []struct {
		l    []api.ClubCommand
		want api.Foul
	}{
		{commands(shoot("ann", 9), shoot("", 9)), api.BadName}, {commands(goes("ann", 3)), offLimits}, {commands(give(), api.ClubCommand{Kind: -1}, shoot("", 9)), offLimits}, {commands(measure("a", -1, only(0))), offLimits}, {commands(learn(0, 0, only(0))), offLimits}, {commands(result(0, 0, 0, list(1), nil), goes("ann", 3)), api.BadCount}, {slices.Repeat(commands(give()), 30), ok}, {slices.Repeat(commands(give()), 31), api.BadCount}, {append(commands(shoot("", 9)), make([]api.ClubCommand, 30)...), api.BadCount}, {append(slices.Repeat(commands(give()), 29), goes("", 3)), api.BadName},
	} {
		if s, f := club.WriteLog(x.l); f != x.want || f != ok && s != "" {
			t.Error(i, s, f)
		}
	}
}

// P10.3, P10.7: random commands are read as they were written.
func TestLogRandom(t *testing.T) {
	r := rand.New(rand.NewSource(1015))
	for range 3000 {
		var l []api.ClubCommand
		for range r.Intn(5) {
			l = append(l, until(commandFoul, func() api.ClubCommand { return anyCommand(r) }))
		}
		s, f := club.WriteLog(l)
		fair(t, f)
		o, n, f := club.ReadLog(s)
		if !same(o, l) || n != 0 || f != ok || strings.Count(s, "\n") != len(l) {
			t.Fatal(l, s, o, n, f)
		}
	}
}

// P10.3: how long a log may be.
func TestReadLogLength(t *testing.T) {
	for i, x := range []struct {
		text       string
		many, line int
		f          api.Foul
	}{
		{"", 0, 0, ok}, {"give -", 1, 0, ok}, {strings.Repeat("give -\n", 30), 30, 0, ok}, {strings.TrimSuffix(strings.Repeat("give -\n", 30), "\n"), 30, 0, ok}, {strings.Repeat("give -\n", 30) + "g", 0, 0, api.BadCount}, {strings.Repeat("give -\n", 31), 0, 0, api.BadCount}, {strings.Repeat("\n", 31), 0, 0, api.BadCount}, {strings.Repeat("\n", 30), 0, 1, api.BadForm},
		{strings.Repeat("g", 60001), 0, 0, api.BadCount}, {strings.Repeat("g", 60000), 0, 1, api.BadForm}, {strings.Repeat("g", 60000) + "\n", 0, 0, api.BadCount}, {"give " + strings.Repeat("1/", 29996) + "1\n", 0, 1, api.BadCount}, {"give 1\nshoot " + strings.Repeat("a", 50000) + " 1\n", 0, 2, api.BadName},
	} {
		if l, n, f := club.ReadLog(x.text); len(l) != x.many || n != x.line || f != x.f {
			t.Error(i, len(l), n, f)
		}
	}
}

// lineForms says of lines which foul they have.
func lineForms() map[string]api.Foul {
	forms := map[string]api.Foul{
		"shoot ann -5": ok, "shoot Ann 5": api.BadName, "shoot - 5": api.BadName, "shoot 1 5": api.BadName, "shoot a/b 5": api.BadName, "shoot ä 5": api.BadName, "shoot a\r 5": api.BadName, "shoot \x00 5": api.BadName, "shoot abcdefghij012 5": api.BadName, "shoot shoot 5": ok, "shoot 5": api.BadForm, "shoot ann 1..2": api.BadForm, "shoot ann 1/2": api.BadForm, "shoot ann -": api.BadForm,
		"result 1 2 3 1/2 -": ok, "result 1 2 3 1 -": api.BadCount, "result 1 2 3 - 1": api.BadCount, "result 1 2 3 1/2/3 -": api.BadCount, "result 1 2 3 1/2 3/4": ok, "result 1 2 3 -": api.BadForm, "result 1 2 - -": api.BadForm, "result 1 2 3 1//2 -": api.BadForm, "result 1 2 3 /1 -": api.BadForm, "result 1 2 3 1/ -": api.BadForm, "result 1 2 3 -/1 -": api.BadForm, "result 1 2 3 -- -": api.BadForm, "result 1 2 3 -1/-2 -": ok, "result 1 2 3 01/2 -": api.BadForm, "result 1 2 3 1,2 -": api.BadForm, "result a 2 3 1/2 -": api.BadForm,
		"measure a star 1..2": api.BadForm, "measure a judges 1..2": api.BadForm, "measure a papers 1": api.BadForm, "measure a 0 1..2": api.BadForm, "measure a Spine 1..2": api.BadForm, "measure a weight 2..1": ok, "measure a weight 1..1": api.BadForm, "measure a weight 7": ok, "measure a weight -3..-2": ok, "measure a weight -2..-3": ok, "measure a weight 1...2": api.BadForm, "measure a weight 1.2": api.BadForm, "measure a weight ..2": api.BadForm, "measure a weight 1..": api.BadForm, "measure a weight 1..2..3": api.BadForm, "measure a weight 01..2": api.BadForm, "measure a weight 1..02": api.BadForm, "measure a weight -0..2": api.BadForm, "measure a weight 1..+2": api.BadForm, "measure a weight x..2": api.BadForm, "measure a weight 1..x": api.BadForm, "measure a weight -": api.BadForm, "measure a weight 1/2": api.BadForm, "measure a weight 1000000000..2": api.BadForm, "measure a weight 1..1000000000": api.BadForm, "measure a weight -999999999..999999999": ok, "measure A spine 1": api.BadName,
		"go ann over": api.BadForm, "go ann 1": api.BadForm, "go ann free": api.BadForm, "go ann On": api.BadForm, "go Ann on": api.BadName, "go on on": ok,
		"learn spine 0 1..2": api.BadForm, "learn star 0 1..2": api.BadForm, "learn 1 0 1..2": api.BadForm, "learn length 0 1..2": ok, "learn papers -1 2": ok, "learn papers 0 1/2": api.BadForm,
		"give 1/2/3/4/5/6/7/8/9/10/11/12/13/14/15/16/17/18/19/20/21/22/23/24": ok, "give 1/2/3/4/5/6/7/8/9/10/11/12/13/14/15/16/17/18/19/20/21/22/23/24/25": api.BadCount, "give 1..2": api.BadForm, "give 1 2": api.BadForm, "give x": api.BadForm, "give 1/x": api.BadForm, "give 1/1000000000": api.BadForm, "give 1/-999999999": ok,
		"hello": api.BadForm, "": api.BadForm, " ": api.BadForm, "done": api.BadForm, "ask seat 3 0 0": api.BadForm, "part stock 0 0": api.BadForm, "state 0 -": api.BadForm, strings.TrimSuffix(sealed("reply sets 3 0 0 no -"), "\n"): api.BadForm, "back 1.0": api.BadForm, "back 0x1": api.BadForm, "back 1_0": api.BadForm, "back +1": api.BadForm, "back --1": api.BadForm, "back 00": api.BadForm, "back 999999999": ok, "back -999999999": ok, "back 9999999999": api.BadForm, "back 99999999999999999999": api.BadForm,
	}
	for _, line := range strings.Split(strings.TrimSuffix(logText, "\n"), "\n") {
		forms[line] = ok
		word, rest, _ := strings.Cut(line, " ")
		for _, wrong := range []string{word, word + " ", line + " ", " " + line, line + " 0", line + " -", strings.Replace(line, " ", "  ", 1), strings.Replace(line, " ", "\t", 1), line + "\r", word + "s " + rest, strings.ToUpper(word[:1]) + line[1:], rest, line[:strings.LastIndex(line, " ")], line + "x"} {
			if !strings.HasPrefix(line, "withdraw") || wrong != line+"x" && wrong != line+"\r" {
				forms[wrong] = api.BadForm
			}
		}
		for i, field := range strings.Fields(rest) {
			// A field that is a number, a span or a list is no word.
			if strings.Trim(field, "-0123456789./") == "" {
				fields := strings.Fields(rest)
				fields[i] = "x"
				forms[word+" "+strings.Join(fields, " ")] = api.BadForm
			}
		}
	}
	return forms
}

// P10.3: the forms of lines.
func TestReadLogForms(t *testing.T) {
	forms := lineForms()
	if len(forms) < 250 {
		t.Error(len(forms))
	}
	for text, want := range forms {
		// Without its line feed the empty line is none.
		for _, x := range []struct {
			before, after string
			line          int
		}{{"", "\n", 1}, {"give -\nback 1\n", "\n", 3}, {"give -\n", "\nback 1", 2}} {
			l, n, f := club.ReadLog(x.before + text + x.after)
			wantLine := x.line
			if want == ok {
				wantLine = 0
			}
			if f != want || n != wantLine || f != ok && len(l) > 0 {
				t.Errorf("%q: %d %d", text, n, f)
			}
			if s, g := club.WriteLog(l); f == ok && (g != ok || s != strings.TrimSuffix(x.before+text+x.after, "\n")+"\n") {
				t.Errorf("%q: %q", text, s)
			}
		}
	}
}

// P10.3: a line that does not have its form comes before commands with fouls.
func TestReadLogOrder(t *testing.T) {
	for text, want := range map[string]fileLine{
		"shoot A 1\nhello\n":            {2, api.BadForm},
		"hello\nshoot A 1\n":            {1, api.BadForm},
		"shoot A 1\ngive 1\nhello\n\n":  {3, api.BadForm},
		"give 1\nshoot A 1\nback x":     {3, api.BadForm},
		"shoot A 1\nresult 0 0 0 1 -\n": {1, api.BadName},
		"result 0 0 0 1 -\nshoot A 1\n": {1, api.BadCount},
		"back 1\nresult 0 0 0 1 -\n":    {2, api.BadCount},
		"\n":                            {1, api.BadForm},
		"give -\n\n":                    {2, api.BadForm},
		"give -\n\ngive -\n":            {2, api.BadForm},
	} {
		if l, n, f := club.ReadLog(text); (fileLine{n, f}) != want || len(l) > 0 {
			t.Errorf("%q: %d %d", text, n, f)
		}
	}
}

// P1: any text is read, or has a foul.
func TestReadLogAnyText(t *testing.T) {
	r := rand.New(rand.NewSource(1016))
	pieces := append(strings.SplitAfter(logText, "\n"), "shoot ", "give ", "ann ", " ", " ", "\n", "\n", "1", "2", "/", "..", "0", "-", "-1", "\xff", "\x00", "999999999")
	for range 5000 {
		text := ""
		for range r.Intn(12) {
			text += pick(r, pieces)
		}
		l, n, f := club.ReadLog(text)
		if f != ok && len(l) > 0 || f == ok && n != 0 {
			t.Fatalf("%q: %v %d %d", text, l, n, f)
		}
		if s, g := club.WriteLog(l); f == ok && (g != ok || strings.TrimSuffix(s, "\n") != strings.TrimSuffix(text, "\n")) {
			t.Fatalf("%q: %q %d", text, s, g)
		}
	}
}
