package club_test

import (
	"math/rand"
	"slices"
	"strconv"
	"strings"
	"testing"

	"nock/api"
	"nock/club"
)

// P10.4: replies, byte for byte.
func TestReply(t *testing.T) {
	for q, want := range map[api.ClubAsk]string{
		asks(api.ClubSeat, 3):                 "reply seat 3 0 0 yes 0/1/-1/0/-1",
		asks(api.ClubSeat, 4):                 "reply seat 4 0 0 no 0/1/2/3/4",
		asks(api.ClubSeat, -999999999):        "reply seat -999999999 0 0 yes 0/1/-1/0/-1",
		asks(api.ClubRisk):                    "reply risk 0 0 0 yes 0/0/0/0/0/0/0/0/0/2/0/0/1/0/0/2/1/0/1/1",
		asks(api.ClubGold, 0):                 "reply gold 0 0 0 yes 0",
		asks(api.ClubGold, 1):                 "reply gold 1 0 0 no -",
		asks(api.ClubSets, 2):                 "reply sets 2 0 0 yes 0/1/2/3/4/5",
		asks(api.ClubSets, 3):                 "reply sets 3 0 0 no -",
		asks(api.ClubOut, 2, 30, 70):          "reply out 2 30 70 yes 2/1/0",
		asks(api.ClubOut, 2, 30, 69):          "reply out 2 30 69 no -",
		asks(api.ClubWorn, 12):                "reply worn 12 0 0 yes 0/1/1/2",
		asks(api.ClubWorn, 11):                "reply worn 11 0 0 no -",
		asks(api.ClubRecord, 0, 50, -1):       "reply record 0 50 -1 yes -",
		asks(api.ClubRecord, 0, 250, 9999999): "reply record 0 250 9999999 no -1/670/680",
		asks(api.ClubFirst, 4, 3):             "reply first 4 3 0 yes 0/1",
		asks(api.ClubFirst, 4, 1):             "reply first 4 1 0 no -",
	} {
		if s, f := club.Reply(exampleBook(), q); s != sealed(want) || f != ok {
			t.Error(q, s, f)
		}
	}
	if s, _ := club.Reply(exampleBook(), asks(api.ClubSets, 3)); s != "reply sets 3 0 0 no - 31653\n" {
		t.Error(s)
	}
}

// verified is what is said of a reply.
type verified struct {
	v api.ClubVerdict
	f api.Foul
}

func checkReplies(t *testing.T, replies map[string]verified) {
	t.Helper()
	for s, want := range replies {
		if v, f := club.Verify(exampleBook(), s); (verified{v, f}) != want {
			t.Errorf("%q: %d %d", s, v, f)
		}
	}
}

// P10.4: what replies are worth.
func TestVerify(t *testing.T) {
	proved, right, wrong := verified{api.ClubProved, ok}, verified{api.ClubRight, ok}, verified{api.ClubWrong, ok}
	replies := map[string]verified{
		"reply seat 3 0 0 yes 0/1/-1/0/-1": proved, "reply seat 3 0 0 yes -1/-1/1/0/0": proved, "reply seat 2 0 0 yes 0/1/-1/-1/-1": proved, "reply seat 3 0 0 yes 0/1/-1/-1/-1": wrong, "reply seat 3 0 0 no 0/1/2/3/4": wrong, "reply seat 4 0 0 no 0/1/2/3/4": proved, "reply seat 4 0 0 no -": wrong, "reply seat 6 0 0 no -": proved, "reply seat 4 0 0 yes 0/1/-1/0/-1": wrong, "reply seat 4 0 0 no 4/3/2/1/0": wrong, "reply seat 999999999 0 0 no 0": proved,
		"reply risk 0 0 0 yes 0/0/0/0/0/0/0/0/0/2/0/0/1/0/0/2/1/0/1/1": proved, "reply risk 0 0 0 yes 0/0/0/0/0/0/0/0/0/2/0/0/1/0/1/1/1/0/0/2": proved, "reply risk 0 0 0 yes 0/0/0/0": wrong, "reply risk 0 0 0 yes -": wrong, "reply risk 0 0 0 no -": wrong,
		"reply gold 0 0 0 yes 0/1": proved, "reply gold 0 0 0 yes 1": wrong, "reply gold 0 0 0 no -": wrong, "reply gold 1 0 0 no -": right, "reply gold 1 0 0 yes 0": wrong, "reply gold 1 0 0 no 0": wrong, "reply gold -1 0 0 no -": right, "reply gold -1 0 0 yes -": wrong,
		"reply sets 2 0 0 yes 0/1/2/3/4/5": proved, "reply sets 2 0 0 yes 3/4/5/0/1/2": proved, "reply sets 3 0 0 no -": right, "reply sets 2 0 0 no -": wrong, "reply sets 3 0 0 no 1": wrong, "reply sets 0 0 0 yes -": proved, "reply sets 3 0 0 yes 0/1/2/3/4/5": wrong,
		"reply out 2 30 70 yes 2/1/0": proved, "reply out 2 30 110 yes 2/3/0": proved, "reply out 2 30 69 no -": right, "reply out 2 30 69 no 2/1/0": wrong, "reply out 2 30 70 no -": wrong,
		"reply worn 12 0 0 yes 0/1/1/2": proved, "reply worn 16 0 0 yes 0/1/0/3": proved, "reply worn 11 0 0 no -": right, "reply worn 11 0 0 no 0/1/1/2": wrong, "reply worn 12 0 0 yes 1/0/0/0": wrong,
		"reply record 0 50 -1 yes -": right, "reply record 0 50 -1 yes 0": wrong, "reply record 0 50 0 no -1": right, "reply record 0 50 0 no -": wrong, "reply record 0 150 670 no -1/670": right, "reply record 0 150 670 no 670/-1": wrong, "reply record 0 150 670 yes -1/670": wrong,
		"reply first 4 3 0 yes 0/1": right, "reply first 4 3 0 yes 0": wrong, "reply first 4 3 0 yes 1/0": wrong, "reply first 4 3 0 no 0/1": wrong, "reply first 4 1 0 no -": right, "reply first 4 1 0 no 0/1": wrong,
		"reply sets 3 1 0 no -": {0, offLimits}, "reply risk 1 0 0 no -": {0, offLimits}, "reply risk 0 0 1 no -": {0, offLimits}, "reply first 4 3 1 yes 0/1": {0, offLimits}, "reply out 9 0 0 no -": {0, api.Unknown}, "reply out 2 1000 0 no -": {0, offLimits}, "reply record 1 0 0 no -": {0, api.Unknown}, "reply first 0 0 0 no -": {0, offLimits}, "reply first 5 0 0 no -": {0, api.Unknown},
	}
	for s, want := range replies {
		checkReplies(t, map[string]verified{sealed(s): want, strings.TrimSuffix(sealed(s), "\n"): want})
	}
}

// P10.4: what is no reply.
func TestVerifyForms(t *testing.T) {
	noForm, against := verified{0, api.BadForm}, verified{0, api.Against}
	right := sealed("reply sets 3 0 0 no -")
	sum := sumOf(0, "reply sets 3 0 0 no -")
	checkReplies(t, map[string]verified{
		"": noForm, "\n": noForm, " ": noForm, "reply\n": noForm, "reply": noForm, "hello": noForm, right + "\n": noForm, right + right: noForm, "\n" + right: noForm, " " + right: noForm, right + " ": noForm, strings.TrimSuffix(right, "\n") + " \n": noForm, strings.TrimSuffix(right, "\n") + "\r\n": noForm, strings.Replace(right, " ", "\n", 1): noForm, strings.Replace(right, " ", "  ", 1): noForm, strings.Replace(right, " ", "\t", 1): noForm,
		"reply sets 3 0 0 no -\n": noForm, "reply sets 3 0 0 no -": noForm, "reply sets 3 0 0 no - \n": noForm, sealed("reply sets 3 0 no -"): noForm, sealed("reply sets 3 0 0 0 no -"): noForm, sealed("reply sets 3 0 0 no"): noForm, sealed("reply sets 3 0 0 -"): noForm, sealed("reply 3 0 0 no -"): noForm, sealed("sets 3 0 0 no -"): noForm, sealed("reply sets 3 0 0 no - -"): noForm, sealed("reply  sets 3 0 0 no -"): noForm, sealed("reply sets 3 0 0  no -"): noForm, sealed(" reply sets 3 0 0 no -"): noForm,
		sealed("reply who 3 0 0 no -"): noForm, sealed("reply Sets 3 0 0 no -"): noForm, sealed("reply set 3 0 0 no -"): noForm, sealed("reply shoot 3 0 0 no -"): noForm, sealed("reply 3 3 0 0 no -"): noForm, sealed("replay sets 3 0 0 no -"): noForm, sealed("Reply sets 3 0 0 no -"): noForm, sealed("ask sets 3 0 0 no -"): noForm, "ask sets 3 0 0\n": noForm, "give -\n": noForm, "part stock 0 0\n": noForm, "state 0 -\n": noForm,
		sealed("reply sets 3 0 0 maybe -"): noForm, sealed("reply sets 3 0 0 No -"): noForm, sealed("reply sets 3 0 0 y -"): noForm, sealed("reply sets 3 0 0 1 -"): noForm, sealed("reply sets x 0 0 no -"): noForm, sealed("reply sets 3 x 0 no -"): noForm, sealed("reply sets 3 0 x no -"): noForm, sealed("reply sets 03 0 0 no -"): noForm, sealed("reply sets +3 0 0 no -"): noForm, sealed("reply sets 3 -0 0 no -"): noForm, sealed("reply sets 1000000000 0 0 no -"): noForm, sealed("reply sets 3..4 0 0 no -"): noForm, sealed("reply sets 3 0/0 0 no -"): noForm,
		sealed("reply sets 3 0 0 no x"): noForm, sealed("reply sets 3 0 0 no 1/x"): noForm, sealed("reply sets 3 0 0 no 1/"): noForm, sealed("reply sets 3 0 0 no /1"): noForm, sealed("reply sets 3 0 0 no 1//2"): noForm, sealed("reply sets 3 0 0 no --"): noForm, sealed("reply sets 3 0 0 no 01"): noForm, sealed("reply sets 3 0 0 no 1..2"): noForm, sealed("reply sets 3 0 0 no 1000000000"): noForm, "reply sets 3 0 0 no - x\n": noForm, "reply sets 3 0 0 no - -\n": noForm, "reply sets 3 0 0 no - 0" + strconv.Itoa(sum): noForm, "reply sets 3 0 0 no - +" + strconv.Itoa(sum): noForm, "reply sets 3 0 0 no - 1000000000": noForm, "reply sets 3 0 0 no - 1/2": noForm,
		"reply sets 3 0 0 no - 65521\n": against, "reply sets 3 0 0 no - 999999999": against, "reply sets 3 0 0 no - -1\n": against, "reply sets 3 0 0 no - 0": against, "reply sets 3 0 0 no - -" + strconv.Itoa(sum): against, "reply sets 3 0 0 no - " + strconv.Itoa(sum+65521): against, "reply sets 3 0 0 no - " + strconv.Itoa(sum+1): against, strings.Replace(right, "3", "4", 1): against, strings.Replace(right, "no", "yes", 1): against, strings.Replace(right, "sets", "seat", 1): against,
		// The sum comes before the foul of the question.
		"reply out 9 0 0 no - 0\n": against, "reply sets 3 1 0 no - 0": against, "reply gold 3 1 0 no - " + strconv.Itoa(sumOf(0, "reply gold 3 1 0 no - ")): against,
		// It is that of the line up to the blank before it.
		"reply sets 3 0 0 no - " + strconv.Itoa(sumOf(0, "sets 3 0 0 no -")): against, "reply sets 3 0 0 no - " + strconv.Itoa(sumOf(1, "reply sets 3 0 0 no -")): against,
	})
	b := with(func(b *api.ClubBook) {
		b.Bracket.Results = append(b.Bracket.Results, api.BracketResult{Match: 4, One: 0, Two: 4, Sets: slices.Repeat([]api.BracketPair{{One: 1, Two: 2}}, 3)})
	})
	if v, f := club.Verify(b, sealed("reply gold 0 0 0 yes 0")); v != api.ClubWrong || f != api.Against {
		t.Error(v, f)
	}
	long := sealed("reply seat 9 0 0 no " + strings.Repeat("0/", 1<<17) + "0")
	if v, f := club.Verify(exampleBook(), long); v != api.ClubWrong || f != ok {
		t.Error(v, f)
	}
}

// P10.7: a reply of which one byte is changed is not read.
func TestVerifyChangedByte(t *testing.T) {
	b := exampleBook()
	for _, q := range []api.ClubAsk{asks(api.ClubSeat, 3), asks(api.ClubSets, 3), asks(api.ClubRecord, 0, 50, -1), asks(api.ClubOut, 2, 30, 70)} {
		s, f := club.Reply(b, q)
		fair(t, f)
		reply := []byte(s)
		for i, old := range reply {
			for c := range 256 {
				if byte(c) == old {
					continue
				}
				reply[i] = byte(c)
				if v, f := club.Verify(b, string(reply)); v != api.ClubWrong || f != api.BadForm && f != api.Against {
					t.Fatalf("%q %d %d", reply, v, f)
				}
			}
			reply[i] = old
		}
	}
}

// P10.8: what Reply returns is never called wrong, and a yes of which there is a proof is called proved.
func TestVerifyReplies(t *testing.T) {
	r := rand.New(rand.NewSource(1027))
	many := make(map[api.ClubVerdict]int)
	for range 1500 {
		b := randomBook(r)
		q := randomAsk(r, b)
		s, f := club.Reply(b, q)
		yes, l, g := club.Ask(b, q)
		if f != g {
			t.Fatal(b, q, f, g)
		}
		if f != ok {
			continue
		}
		want := api.ClubRight
		if hasProof(q.Kind, yes) {
			want = api.ClubProved
		}
		if v, f := club.Verify(b, s); v != want || f != ok {
			t.Fatal(b, s, v, f)
		}
		// The contrary is always wrong, and so is another list that proves nothing.
		other := append(slices.Clone(l), 1)
		words := strings.Fields(s)
		if proved(t, b, q, yes, other) {
			want = api.ClubProved
		} else {
			want = api.ClubWrong
		}
		if v, f := club.Verify(b, sealed(strings.Join(words[:6], " ")+" "+listText(other))); v != want || f != ok {
			t.Fatal(b, s, other, v, f)
		}
		words[5] = map[string]string{"yes": "no", "no": "yes"}[words[5]]
		if v, f := club.Verify(b, sealed(strings.Join(words[:7], " "))); v != api.ClubWrong || f != ok {
			t.Fatal(b, s, v, f)
		}
		many[want]++
	}
	if many[api.ClubWrong] < 100 {
		t.Error(many)
	}
}

// listText returns a list of one number at least as it is written.
func listText(l []int) string {
	text := ""
	for _, n := range l {
		text += "/" + strconv.Itoa(n)
	}
	return text[1:]
}
