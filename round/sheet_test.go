package round_test

import (
	"math"
	"math/rand"
	"slices"
	"strings"
	"testing"

	"nock/api"
	"nock/round"
)

// P4.1: which rounds have which fouls.
func TestCheckRound(t *testing.T) {
	second := func(far, ends, arrows, best int) func(r *api.Round) {
		return func(r *api.Round) { r.Archers = nil; r.Legs[1] = leg(far, ends, arrows, best) }
	}
	name := func(name string) func(r *api.Round) { return func(r *api.Round) { r.Archers[ben].Name = name } }
	class := func(class int) func(r *api.Round) { return func(r *api.Round) { r.Archers[ben].Class = class } }
	shot := func(archer int, arrows ...int) func(r *api.Round) {
		return func(r *api.Round) { r.Archers[archer].Arrows = arrows }
	}
	offs := func(offs ...api.RoundOff) func(r *api.Round) {
		return func(r *api.Round) { r.Archers[cam].Offs = offs }
	}
	for what, x := range map[string]struct {
		change func(r *api.Round)
		want   api.Foul
	}{
		"as it is":             {func(r *api.Round) {}, api.Fair},
		"no archers":           {func(r *api.Round) { r.Archers = nil }, api.Fair},
		"empty archers":        {func(r *api.Round) { r.Archers = []api.RoundArcher{} }, api.Fair},
		"no legs":              {func(r *api.Round) { r.Legs = nil }, api.BadCount},
		"empty legs":           {func(r *api.Round) { r.Legs = []api.RoundLeg{} }, api.BadCount},
		"no legs, no archers":  {func(r *api.Round) { *r = api.Round{} }, api.BadCount},
		"one leg":              {func(r *api.Round) { r.Legs, r.Archers = r.Legs[:1], nil }, api.Fair},
		"four legs":            {func(r *api.Round) { r.Legs = append(r.Legs, r.Legs...) }, api.OutOfOrder}, // since there are shoot-offs
		"four legs alone":      {func(r *api.Round) { r.Legs, r.Archers = append(r.Legs, r.Legs...), nil }, api.Fair},
		"five legs":            {func(r *api.Round) { r.Legs = append(append(r.Legs, r.Legs...), r.Legs[0]) }, api.BadCount},
		"nearest":              {second(1, 1, 1, 1), api.Fair},
		"farthest":             {second(90, 1, 1, 1), api.Fair},
		"at no distance":       {second(0, 1, 1, 1), api.OffLimits},
		"distance below":       {second(-1, 1, 1, 1), api.OffLimits},
		"distance above":       {second(91, 1, 1, 1), api.OffLimits},
		"great distance":       {second(math.MaxInt, 1, 1, 1), api.OffLimits},
		"no ends":              {second(1, 0, 1, 1), api.OffLimits},
		"ends below":           {second(1, -1, 1, 1), api.OffLimits},
		"most ends":            {second(1, 12, 1, 1), api.Fair},
		"ends above":           {second(1, 13, 1, 1), api.OffLimits},
		"great ends":           {second(1, math.MaxInt, 1, 1), api.OffLimits},
		"no arrows":            {second(1, 1, 0, 1), api.OffLimits},
		"arrows below":         {second(1, 1, -1, 1), api.OffLimits},
		"most arrows":          {second(1, 1, 6, 1), api.Fair},
		"arrows above":         {second(1, 1, 7, 1), api.OffLimits},
		"great arrows":         {second(1, 1, math.MaxInt, 1), api.OffLimits},
		"no best":              {second(1, 1, 1, 0), api.OffLimits},
		"best below":           {second(1, 1, 1, -1), api.OffLimits},
		"greatest best":        {second(1, 1, 1, 11), api.Fair},
		"best above":           {second(1, 1, 1, 12), api.OffLimits},
		"great best":           {second(1, 1, 1, math.MaxInt), api.OffLimits},
		"most in all":          {func(r *api.Round) { r.Legs[0].Ends = 12; r.Legs[1] = leg(9, 12, 2, 9); r.Archers = nil }, api.Fair},
		"too many in all":      {func(r *api.Round) { r.Legs[0].Ends = 11; r.Legs[1] = leg(9, 7, 4, 9); r.Archers = nil }, api.BadCount},
		"far too many":         {func(r *api.Round) { r.Legs = slices.Repeat([]api.RoundLeg{leg(9, 12, 6, 9)}, 4) }, api.BadCount},
		"one leg too many":     {func(r *api.Round) { r.Legs = []api.RoundLeg{leg(9, 12, 6, 9)} }, api.BadCount},
		"six archers":          {func(r *api.Round) { r.Archers = append(r.Archers, archer("f")) }, api.Fair},
		"seven archers":        {func(r *api.Round) { r.Archers = append(r.Archers, archer("f"), archer("g")) }, api.BadCount},
		"seven empty archers":  {func(r *api.Round) { r.Archers = make([]api.RoundArcher, 7) }, api.BadCount},
		"no name":              {name(""), api.BadName},
		"short name":           {name("b"), api.Fair},
		"name with digits":     {name("b09"), api.Fair},
		"long name":            {name("abcdefghijkl"), api.Fair},
		"too long a name":      {name("abcdefghijklm"), api.BadName},
		"very long name":       {name(strings.Repeat("a", 1<<20)), api.BadName},
		"digit first":          {name("1a"), api.BadName},
		"great letter":         {name("aB"), api.BadName},
		"great letter first":   {name("B"), api.BadName},
		"blank":                {name("a b"), api.BadName},
		"line feed":            {name("a\n"), api.BadName},
		"other letter":         {name("ä"), api.BadName},
		"no letter":            {name("a\xff"), api.BadName},
		"next to a":            {name("`"), api.BadName},
		"next to z":            {name("z{"), api.BadName},
		"next to 0":            {name("z/"), api.BadName},
		"next to 9":            {name("z:"), api.BadName},
		"z and 9":              {name("z9"), api.Fair},
		"the first name":       {name("ann"), api.Twice},
		"a later name":         {name("eve"), api.Twice},
		"class of others":      {class(1), api.Fair},
		"last class":           {class(3), api.Fair},
		"class above":          {class(4), api.OffLimits},
		"class below":          {class(-1), api.OffLimits},
		"great class":          {class(math.MinInt), api.OffLimits},
		"nothing shot":         {shot(ben), api.Fair},
		"all shot":             {shot(ben, 0, 0, 0, 0, 0, 0, 0), api.Fair},
		"too many shot":        {shot(ben, 0, 0, 0, 0, 0, 0, 0, 0), api.BadCount},
		"very many shot":       {shot(ben, make([]int, 1<<20)...), api.BadCount},
		"best of the first":    {shot(ben, 11, 11, 11), api.Fair},
		"above the first":      {shot(ben, 11, 11, 12), api.OffLimits},
		"best of the second":   {shot(ben, 11, 11, 11, 10, 10, 10, 10), api.Fair},
		"above the second":     {shot(ben, 11, 11, 11, 11), api.OffLimits},
		"last above":           {shot(ben, 11, 11, 11, 10, 10, 10, 11), api.OffLimits},
		"number below":         {shot(ben, 0, -1), api.OffLimits},
		"great number":         {shot(ben, math.MaxInt), api.OffLimits},
		"no shoot-off":         {offs(), api.Fair},
		"empty shoot-off":      {func(r *api.Round) { r.Archers[ben].Offs = []api.RoundOff{} }, api.Fair},
		"longest shoot-off":    {offs(off(0, 0), off(11, 999), off(1, 1)), api.Fair},
		"too long a shoot-off": {offs(off(0, 0), off(11, 999), off(1, 1), off(1, 1)), api.BadCount},
		"off above":            {offs(off(12, 0)), api.OffLimits},
		"off below":            {offs(off(-1, 0)), api.OffLimits},
		"second off above":     {offs(off(1, 1), off(12, 0)), api.OffLimits},
		"off too far":          {offs(off(0, 1000)), api.OffLimits},
		"off far below":        {offs(off(0, -1)), api.OffLimits},
		"out":                  {func(r *api.Round) { r.Archers[ben].Out = true }, api.Fair},
		"out after all":        {func(r *api.Round) { r.Archers[cam].Out, r.Archers[cam].Offs = true, nil }, api.Fair},
		"out with a shoot-off": {func(r *api.Round) { r.Archers[cam].Out = true }, api.OutOfOrder},
		"off too early":        {shot(cam, 9, 9, 9, 9, 9, 9), api.OutOfOrder},
		"off before all":       {shot(cam), api.OutOfOrder},
	} {
		r := with(x.change)
		if f := round.CheckRound(r); f != x.want {
			t.Error(what, f)
		}
	}
}

// P4.1, R1: of several fouls the first one counts.
func TestCheckRoundOrder(t *testing.T) {
	r := api.Round{Legs: make([]api.RoundLeg, 5), Archers: make([]api.RoundArcher, 7)}
	var first *api.RoundArcher
	for i, x := range []struct {
		want   api.Foul
		repair func()
	}{
		{api.BadCount, func() { r.Legs = []api.RoundLeg{leg(1, 12, 6, 0), leg(0, 1, 1, 2)} }},
		{api.OffLimits, func() { r.Legs[0].Best = 3 }},
		{api.OffLimits, func() { r.Legs[1].Far = 5 }},
		{api.BadCount, func() { r.Legs[0] = leg(1, 1, 2, 3) }},
		{api.BadCount, func() {
			r.Archers = make([]api.RoundArcher, 2)
			first = &r.Archers[0]
			*first = api.RoundArcher{Class: 4, Arrows: list(4, 4, 4, 4), Offs: []api.RoundOff{off(12, 0), off(0, -1), off(0, 0), off(0, 0)}}
		}},
		{api.BadName, func() { first.Name = "a" }},
		{api.OffLimits, func() { first.Class = 0 }},
		{api.BadCount, func() { first.Arrows = list(4, 4) }},
		{api.OffLimits, func() { first.Arrows[0] = 3 }},
		{api.OffLimits, func() { first.Arrows[1] = 3 }},
		{api.BadCount, func() { first.Offs = first.Offs[:2] }},
		{api.OffLimits, func() { first.Offs[0].Number = 11 }},
		{api.OffLimits, func() { first.Offs[1].Far = 1 }},
		{api.OutOfOrder, func() { first.Arrows = append(first.Arrows, 2); first.Out = true }},
		{api.OutOfOrder, func() { first.Out = false; r.Archers[1] = api.RoundArcher{Name: "a", Class: 4} }},
		{api.Twice, func() { r.Archers[1].Name = "b" }},
		{api.OffLimits, func() { r.Archers[1].Class = 3 }},
		{api.Fair, func() {}},
	} {
		if f := round.CheckRound(r); f != x.want {
			t.Fatal(i, f, r)
		}
		x.repair()
	}
}

// P4.4: who can shoot what, and the fouls.
func TestShoot(t *testing.T) {
	out := with(func(r *api.Round) { r.Archers[ann].Out = true })
	for i, x := range []struct {
		r              api.Round
		archer, number int
		f              api.Foul
	}{
		{example(), ann, 0, api.Fair},
		{example(), ann, 10, api.Fair},
		{example(), ann, 11, api.OffLimits},
		{example(), ann, -1, api.OffLimits},
		{example(), ann, math.MaxInt, api.OffLimits},
		{example(), dot, 11, api.Fair},
		{example(), dot, 12, api.OffLimits},
		// The leg is that of the next arrow: the last one of the first leg, and the first one of the second.
		{with(func(r *api.Round) { r.Archers[dot].Arrows = list(1, 2) }), dot, 11, api.Fair},
		{with(func(r *api.Round) { r.Archers[dot].Arrows = list(1, 2, 3) }), dot, 11, api.OffLimits},
		{with(func(r *api.Round) { r.Archers[dot].Arrows = nil }), dot, 11, api.Fair},
		{example(), cam, 9, api.OutOfOrder},
		{example(), cam, 12, api.OutOfOrder},
		{with(func(r *api.Round) { r.Archers[cam].Offs = nil }), cam, 9, api.OutOfOrder},
		{out, ann, 9, api.OutOfOrder},
		{out, ann, 12, api.OutOfOrder},
		{out, ben, 9, api.Fair},
		{example(), 5, 9, api.Unknown},
		{example(), -1, 12, api.Unknown},
		{api.Round{}, -1, 12, api.BadCount},
	} {
		old, want := copyRound(x.r), api.Round{}
		if x.f == api.Fair {
			want = copyRound(x.r)
			want.Archers[x.archer].Arrows = append(want.Archers[x.archer].Arrows, x.number)
		}
		if o, f := round.Shoot(x.r, x.archer, x.number); f != x.f || !sameRound(o, want) {
			t.Error(i, o, f)
		}
		if !sameRound(x.r, old) {
			t.Error(i, "an argument was changed", x.r)
		}
	}
}

// P4.4: who can withdraw, and the fouls.
func TestWithdraw(t *testing.T) {
	out := with(func(r *api.Round) { r.Archers[ann].Out = true })
	for i, x := range []struct {
		r      api.Round
		archer int
		f      api.Foul
	}{
		{example(), ann, api.Fair},
		{example(), dot, api.Fair},
		{example(), cam, api.OutOfOrder},
		{example(), eve, api.OutOfOrder},
		{with(func(r *api.Round) { r.Archers[cam].Offs = nil }), cam, api.Fair},
		{with(func(r *api.Round) { r.Archers[ben].Arrows = nil }), ben, api.Fair},
		{out, ann, api.OutOfOrder},
		{out, ben, api.Fair},
		{example(), 5, api.Unknown},
		{example(), -1, api.Unknown},
		{api.Round{}, -1, api.BadCount},
	} {
		old, want := copyRound(x.r), api.Round{}
		if x.f == api.Fair {
			want = copyRound(x.r)
			want.Archers[x.archer].Out = true
		}
		if o, f := round.Withdraw(x.r, x.archer); f != x.f || !sameRound(o, want) {
			t.Error(i, o, f)
		}
		if !sameRound(x.r, old) {
			t.Error(i, "an argument was changed", x.r)
		}
	}
}

// P4.4: what steps return are rounds, from the first arrow to the last one.
func TestSteps(t *testing.T) {
	r := rand.New(rand.NewSource(31))
	o := great()
	for n := range 60 {
		for i := range o.Archers {
			o = shoot(t, o, i, r.Intn(12))
			if f := round.CheckRound(o); f != api.Fair || len(o.Archers[i].Arrows) != n+1 {
				t.Fatal(o, f)
			}
		}
	}
	for i := range o.Archers {
		if _, f := round.Shoot(o, i, 0); f != api.OutOfOrder {
			t.Error(i, f)
		}
		less, f := round.Withdraw(o, i)
		fair(t, f)
		fair(t, round.CheckRound(less))
	}
}

// R4: a round after a step shares no memory with the one before.
func TestStepsShareNothing(t *testing.T) {
	r := example()
	// The arrows have room behind them often; the next one must not be written there.
	r.Archers[ann].Arrows = append(make([]int, 0, 9), r.Archers[ann].Arrows...)
	one, two := shoot(t, r, ann, 1), shoot(t, r, ann, 2)
	less, f := round.Withdraw(r, ann)
	fair(t, f)
	if one.Archers[ann].Arrows[5] != 1 || two.Archers[ann].Arrows[5] != 2 {
		t.Error(one, two)
	}
	for _, o := range []api.Round{one, two, less} {
		for i := range o.Legs {
			o.Legs[i] = api.RoundLeg{}
		}
		for i, a := range o.Archers {
			for j := range a.Arrows {
				a.Arrows[j] = 99
			}
			for j := range a.Offs {
				a.Offs[j] = off(99, 99)
			}
			o.Archers[i] = api.RoundArcher{}
		}
	}
	if !sameRound(r, example()) {
		t.Error("memory is shared", r)
	}
}
