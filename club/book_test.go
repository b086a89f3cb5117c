package club_test

import (
	"math/rand"
	"testing"

	"nock/api"
	"nock/club"
)

// P10.1: a book has the foul of its first part that has one.
func TestCheckBook(t *testing.T) {
	if f := club.CheckBook(exampleBook()); f != api.Fair {
		t.Error(f)
	}
	if f := club.CheckBook(api.ClubBook{}); f != api.OffLimits {
		t.Error(f)
	}
	all := wrongs()
	for i, two := range all {
		for _, x := range two {
			if f := club.CheckBook(with(x.change)); f != x.foul {
				t.Error(i, f, x.foul)
			}
			for k, later := range all[i+1:] {
				for _, y := range later {
					if f := club.CheckBook(with(x.change, y.change)); f != x.foul {
						t.Error(i, i+1+k, f, x.foul)
					}
				}
			}
		}
	}
}

// P10.1: the least and random books have no foul.
func TestCheckRandomBooks(t *testing.T) {
	r := rand.New(rand.NewSource(1001))
	for range 300 {
		if b := randomBook(r); club.CheckBook(b) != api.Fair {
			t.Fatal(b)
		}
	}
}

// P1, R1: the foul of a book comes before all others.
func TestBookFoulFirst(t *testing.T) {
	long := make([]api.ClubCommand, 31)
	for i, two := range wrongs() {
		for _, x := range two {
			b := with(x.change)
			o, f1 := club.Do(b, api.ClubCommand{Kind: -1})
			l, force, now, f2 := club.Play(b, long)
			ranks, f3 := club.Course(b, long, 9)
			s, f4 := club.Write(b)
			yes, answer, f5 := club.Ask(b, asks(9))
			is, f6 := club.Proves(b, asks(9), true, list(0))
			reply, f7 := club.Reply(b, asks(9))
			verdict, f8 := club.Verify(b, "")
			out, last, f9 := club.Direct(b, string(make([]byte, 60001)))
			for k, f := range []api.Foul{f1, f2, f3, f4, f5, f6, f7, f8, f9} {
				if f != x.foul {
					t.Error(i, k, f, x.foul)
				}
			}
			if !isZero(o) || len(l)+len(force)+len(ranks)+len(answer) > 0 || !isZero(now) || !isZero(last) || s+reply+out != "" || yes || is || verdict != api.ClubWrong {
				t.Error(i, "results beside a foul")
			}
		}
	}
}
