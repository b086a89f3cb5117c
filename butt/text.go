package butt

import (
	"errors"
	"strconv"
	"strings"

	"nock/api"
)

// wrongLine is the error that a line does not have its form, or stands where it may not; with the number 0 that a line lacks.
type wrongLine struct{ number int }

func (w wrongLine) Error() string {
	return "wrong line " + strconv.Itoa(w.number)
}

// lineKind is a kind of lines, or that there is no line yet.
type lineKind int

// Kinds of lines, in the order in which a text has them.
const (
	noLine lineKind = iota
	bossLine
	layerLine
	sessionLine
	groundLine
	standLine
	archerLine
)

// reader keeps what was read of a text, and the kind of the last line.
type reader struct {
	boss   api.ButtBoss
	ground api.ButtGround
	last   lineKind
}

// follow says whether a line of a kind may stand here: the last line must be of a kind from first to last.
func (r *reader) follow(kind, first, last lineKind) bool {
	may := first <= r.last && r.last <= last
	r.last = kind
	return may
}

// add adds what a line says, unless it may not stand here.
func (r *reader) add(e entry) (added bool) {
	b, g := &r.boss, &r.ground
	switch x := e.(type) {
	case bossEntry:
		b.Limit, b.Swaps = x.limit, x.swaps
		return r.follow(bossLine, noLine, noLine)
	case layerEntry:
		b.Layers = append(b.Layers, x.ButtLayer)
		return r.follow(layerLine, bossLine, layerLine)
	case sessionEntry:
		b.Sessions = append(b.Sessions, x.ButtSession)
		return r.follow(sessionLine, bossLine, sessionLine)
	case groundEntry:
		return r.follow(groundLine, bossLine, sessionLine)
	case standEntry:
		g.Stands = append(g.Stands, x.ButtStand)
		return r.follow(standLine, groundLine, standLine)
	case archerEntry:
		g.Archers = append(g.Archers, x.ButtArcher)
		return r.follow(archerLine, groundLine, archerLine)
	}
	return false
}

// readText reads a text line by line.
func readText(text string) (b api.ButtBoss, g api.ButtGround, err error) {
	var r reader
	number := 0
	for line := range strings.Lines(text) {
		number++
		e, found := readEntry(strings.TrimSuffix(line, "\n"))
		if !found || !r.add(e) {
			return api.ButtBoss{}, api.ButtGround{}, wrongLine{number}
		}
	}
	if r.last < groundLine {
		return api.ButtBoss{}, api.ButtGround{}, wrongLine{0}
	}
	return r.boss, r.ground, nil
}

// checkBoth returns the foul of a boss, and then that of a ground.
func checkBoth(b api.ButtBoss, g api.ButtGround) api.Foul {
	if f := CheckBoss(b); f != api.Fair {
		return f
	}
	return CheckGround(g)
}

// Print returns a boss and a ground as a text.
func Print(b api.ButtBoss, g api.ButtGround) (string, api.Foul) {
	if f := checkBoth(b, g); f != api.Fair {
		return "", f
	}
	text := bossEntry{b.Limit, b.Swaps}.print()
	for _, l := range b.Layers {
		text += layerEntry{l}.print()
	}
	for _, s := range b.Sessions {
		text += sessionEntry{s}.print()
	}
	text += groundEntry{}.print()
	for _, s := range g.Stands {
		text += standEntry{s}.print()
	}
	for _, a := range g.Archers {
		text += archerEntry{a}.print()
	}
	return text, api.Fair
}

// Parse reads a boss and a ground from a text; with BadForm it returns the number of the first wrong line.
func Parse(text string) (b api.ButtBoss, g api.ButtGround, line int, f api.Foul) {
	if len(text) > api.MaxText {
		return api.ButtBoss{}, api.ButtGround{}, 0, api.BadCount
	}
	b, g, err := readText(text)
	var wrong wrongLine
	if errors.As(err, &wrong) {
		return api.ButtBoss{}, api.ButtGround{}, wrong.number, api.BadForm
	}
	if f := checkBoth(b, g); f != api.Fair {
		return api.ButtBoss{}, api.ButtGround{}, 0, f
	}
	return b, g, 0, api.Fair
}
