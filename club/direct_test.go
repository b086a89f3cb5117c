package club_test

import (
	"math/rand"
	"slices"
	"strconv"
	"strings"
	"testing"

	"nock/api"
	"nock/club"
)

// P10.4: what is written for lines.
func TestDirect(t *testing.T) {
	seat, first := sealed("reply seat 3 0 0 yes 0/1/-1/0/-1"), sealed("reply first 4 3 0 yes 0/1")
	for i, x := range []struct{ text, want string }{
		{"", ""}, {"shoot ann 9", "done\n"}, {"shoot ann 9\n", "done\n"}, {"shoot ann 12\nback 1\n", "foul 1\nfoul 9\n"}, {"go ann on\n", "foul 10\n"}, {"shoot Ann 9\nback 0\nagain 0\nagain 1\n", "foul 4\nfoul 1\nfoul 1\nfoul 9\n"}, {"shoot zed 9\nshoot cam 9\n", "foul 6\nfoul 7\n"}, {"give 1/2/3/4/5/6/7/8/9/10/11/12/13/14/15/16/17/18/19/20/21/22/23/24/25\nresult 1 2 3 1 -\ndelay 0", "foul 2\nfoul 2\nfoul 2\n"},
		{"give -\ngo ann on\nback 2\nagain 1\ngo ann on", "done\ndone\ndone\ndone\ndone\n"}, {"give -\ngo ann on\nback 2\ngo ann on\nagain 3\nagain 2\n", "done\ndone\ndone\nfoul 10\nfoul 9\ndone\n"}, {"shoot ann 9\nback 1\nshoot ben 9\nagain 1", "done\ndone\ndone\nfoul 9\n"},
		{"\n", "foul 3\n"}, {"\n\n", "foul 3\nfoul 3\n"}, {" ", "foul 3\n"}, {"hello\nshoot ann\nshoot ann 9 \nshoot  ann 9\n", "foul 3\nfoul 3\nfoul 3\nfoul 3\n"}, {"part stock 0 0\nstate 0 0/0/0/0\ndone\nproved\nfoul 3\n", "foul 3\nfoul 3\nfoul 3\nfoul 3\nfoul 3\n"},
		{"ask seat 3 0 0", seat}, {"ask seat 3 0 0\n" + seat, seat + "proved\n"}, {"ask seat 3 1 0\nask out 9 0 0\nask risk 1 0 0\nask first 0 0 0\n", "foul 1\nfoul 6\nfoul 1\nfoul 1\n"}, {"ask seat 3\nask seat 3 0\nask seat 3 0 0 0\nask who 1 2 3\nask seat x 0 0\nask seat 3 0 0 \nask Seat 3 0 0\nask seat 1000000000 0 0\nask\nask seat 3 0 -\nasks seat 3 0 0\n", strings.Repeat("foul 3\n", 11)},
		{sealed("reply sets 3 0 0 no -") + sealed("reply sets 2 0 0 no -") + sealed("reply sets 2 0 0 yes 3/4/5/0/1/2") + "reply sets 3 0 0 no - 65521\n" + "reply sets 3 0 0 no -\n" + sealed("reply sets 3 1 0 no -") + sealed("reply out 9 0 0 no -"), "right\nwrong\nproved\nfoul 10\nfoul 3\nfoul 1\nfoul 6\n"},
		{strings.TrimSuffix(seat, "\n"), "proved\n"}, {"shoot ann 9\nask first 4 3 0\nhello\n", "done\n" + first + "foul 3\n"},
		{"shoot ann 10\nshoot ann 10\nask first 0 1 0\nback 1\nask first 0 1 0\n", "done\ndone\n" + sealed("reply first 0 1 0 yes -") + "done\n" + sealed("reply first 0 1 0 no -")},
		{"shoot ann 10\nshoot ann 10\n" + sealed("reply first 0 1 0 yes -") + "back 1\n" + sealed("reply first 0 1 0 yes -") + "again 1\n" + sealed("reply first 0 1 0 yes -"), "done\ndone\nright\ndone\nwrong\ndone\nright\n"},
	} {
		if s, _ := directed(t, exampleBook(), x.text); s != x.want {
			t.Error(i, s)
		}
	}
}

// P10.4: the book in the end.
func TestDirectBook(t *testing.T) {
	for text, want := range map[string][]api.ClubCommand{
		"":                        nil,
		"hello\nask seat 3 0 0\n": nil,
		"shoot ann 10\nhello\nshoot ann 10\nask seat 3 0 0\nback 1\nshoot ann 99\nlook 0 0 10":                         commands(shoot("ann", 10), look(0, 0, 10)),
		"give 1\ngo bob on\ndelay 2/3\nback 2\nagain 1\nlearn papers 0 105\n":                                          commands(give(1), learn(3, 0, only(105))),
		"shoot ann 9\nwithdraw ann\nback 1\nshoot ben 9\nshoot ann 10\nagain 1\ngone 1 220\nback 2\nback 1\nagain 2\n": commands(shoot("ann", 9), shoot("ben", 9), shoot("ann", 10)),
	} {
		_, now := directed(t, exampleBook(), text)
		if !same(now, done(t, exampleBook(), want...)) {
			t.Error(text, now)
		}
	}
}

// P10.4: how long a text may be.
func TestDirectLength(t *testing.T) {
	for i, x := range []struct {
		text, want string
		f          api.Foul
	}{
		{strings.Repeat("\n", 30), strings.Repeat("foul 3\n", 30), ok}, {strings.Repeat("\n", 30) + "x", "", api.BadCount}, {strings.Repeat("\n", 31), "", api.BadCount}, {strings.Repeat("delay 1/2\n", 30), strings.Repeat("done\n", 30), ok}, {strings.Repeat("delay 1/2\n", 31), "", api.BadCount}, {strings.Repeat("delay 1/2\n", 29) + "delay 1/2", strings.Repeat("done\n", 30), ok},
		{strings.Repeat("a", 60000), "foul 3\n", ok}, {strings.Repeat("a", 60001), "", api.BadCount}, {strings.Repeat("a", 60000) + "\n", "", api.BadCount}, {strings.Repeat("ask risk 0 0 0\n", 30), strings.Repeat(sealed("reply risk 0 0 0 yes 0/0/0/0/0/0/0/0/0/2/0/0/1/0/0/2/1/0/1/1"), 30), ok},
	} {
		s, now, f := club.Direct(exampleBook(), x.text)
		if s != x.want || f != x.f || f != ok && !isZero(now) {
			t.Error(i, s, f)
		}
	}
}

// randomLine returns a line of a director.
func randomLine(t *testing.T, r *rand.Rand, b api.ClubBook) string {
	t.Helper()
	word := func(q api.ClubAsk) string {
		words := []string{"seat", "risk", "gold", "sets", "out", "worn", "record", "first"}
		return words[q.Kind] + " " + strconv.Itoa(q.A) + " " + strconv.Itoa(q.B) + " " + strconv.Itoa(q.C)
	}
	q := randomAsk(r, b)
	switch r.Intn(7) {
	case 0:
		return "ask " + word(q) + "\n"
	case 1:
		if s, f := club.Reply(b, q); f == ok && r.Intn(3) > 0 {
			return s
		}
		return sealed("reply " + word(q) + pick(r, []string{" yes -", " no -"}))
	case 2:
		return pick(r, []string{"\n", "hello\n", "ask\n", "shoot a\n", "reply\n", "go\n"})
	}
	s, f := club.WriteLog(commands(randomCommand(r, b)))
	fair(t, f)
	return s
}

// wantedLine is what must be written for a line if a book is what there is now, and the book after it.
func wantedLine(b api.ClubBook, text string) (string, api.ClubBook) {
	f := api.BadForm
	switch word, _, _ := strings.Cut(text, " "); word {
	case "ask":
		var q api.ClubAsk
		fields := strings.Fields(text)
		if len(fields) < 5 {
			break
		}
		q.Kind = api.ClubQuestion(slices.Index([]string{"seat", "risk", "gold", "sets", "out", "worn", "record", "first"}, fields[1]))
		q.A, _ = strconv.Atoi(fields[2])
		q.B, _ = strconv.Atoi(fields[3])
		q.C, _ = strconv.Atoi(fields[4])
		reply := ""
		if reply, f = club.Reply(b, q); f == ok {
			return reply, b
		}
	case "reply":
		var v api.ClubVerdict
		if v, f = club.Verify(b, text); f == ok {
			return []string{"wrong\n", "right\n", "proved\n"}[v], b
		}
	default:
		l, _, g := club.ReadLog(text)
		if f = g; f == ok {
			var o api.ClubBook
			if o, f = club.Do(b, l[0]); f == ok {
				return "done\n", o
			}
		}
	}
	return "foul " + strconv.Itoa(int(f)) + "\n", b
}

// P10.4, P10.9: what is written for lines one after the other is what is written for all of them; a line of a question changes nothing.
func TestDirectLines(t *testing.T) {
	r := rand.New(rand.NewSource(1028))
	many := make(map[string]int)
	for range 250 {
		b := randomBook(r)
		text, want, rest := "", "", ""
		now, next := b, b
		for range r.Intn(12) {
			line := randomLine(t, r, b)
			var out, one string
			out, now = wantedLine(now, line)
			if one, next = directed(t, next, line); one != out || !same(next, now) {
				t.Fatal(b, text, line, one, out)
			}
			text += line
			want += out
			if !strings.HasPrefix(line, "ask") && !strings.HasPrefix(line, "reply") {
				rest += line
			}
			word, _, _ := strings.Cut(strings.TrimSpace(out), " ")
			many[word]++
		}
		out, last := directed(t, b, text)
		if out != want || !same(last, now) {
			t.Fatal(b, text, out, want)
		}
		if _, last := directed(t, b, rest); !same(last, now) {
			t.Fatal(b, text, "a question changed something")
		}
	}
	for _, word := range []string{"done", "foul", "reply", "proved", "right", "wrong"} {
		if many[word] < 10 {
			t.Error(word, many[word])
		}
	}
}

// P10.4, P10.6: what is taken back by lines, and entered again, is so as if commands were played.
func TestDirectLog(t *testing.T) {
	r := rand.New(rand.NewSource(1029))
	for range 200 {
		b := randomBook(r)
		l := randomLog(r, b, between(r, 1, 15))
		text, f := club.WriteLog(l)
		fair(t, f)
		fouls, _, want := played(t, b, l)
		out, now := directed(t, b, text)
		lines := ""
		for _, f := range fouls {
			if f == ok {
				lines += "done\n"
			} else {
				lines += "foul " + strconv.Itoa(int(f)) + "\n"
			}
		}
		if out != lines || !same(now, want) {
			t.Fatal(b, text, out, lines)
		}
	}
}
