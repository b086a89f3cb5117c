package line

import "nock/api"

// signal is the word of a signal, and what those who heard it last may do.
type signal struct {
	word string
	lets func(from, to api.LinePlace) bool
}

// signals returns the signals, by api.LineSignal. A text has no word for having heard nothing.
func signals() []signal {
	return []signal{
		api.LineNone:  {word: "", lets: comesBack},
		api.LineCall:  {word: "call", lets: goesOn},
		api.LineShoot: {word: "shoot", lets: goesOn},
		api.LineStop:  {word: "stop", lets: goesBefore},
		api.LineClear: {word: "clear", lets: comesBack},
	}
}

func comesBack(from, to api.LinePlace) bool {
	return to == api.LineBehind && from != to
}

func goesOn(from, to api.LinePlace) bool {
	return comesBack(from, to) || from == api.LineBehind && to == api.LineOn
}

func goesBefore(from, to api.LinePlace) bool {
	return comesBack(from, to) || to == api.LineBefore && from != to
}

// need is the word of a need, and the places where everybody may be if it is to be so.
type need struct {
	word   string
	allows func(at api.LinePlace) bool
}

// needs returns the needs, by api.LineNeed.
func needs() []need {
	return []need{
		api.LineFree:   {word: "free", allows: isAnywhere},
		api.LineNobody: {word: "nobody", allows: isNotBefore},
		api.LineEmpty:  {word: "empty", allows: isNotOn},
		api.LineBack:   {word: "back", allows: isBehind},
	}
}

func isAnywhere(at api.LinePlace) bool {
	return true
}

func isNotBefore(at api.LinePlace) bool {
	return at != api.LineBefore
}

func isNotOn(at api.LinePlace) bool {
	return at != api.LineOn
}

func isBehind(at api.LinePlace) bool {
	return at == api.LineBehind
}

// isSignal says whether a step can give a signal.
func isSignal(s api.LineSignal) bool {
	return within(int(s), int(api.LineCall), int(api.LineClear))
}

func isNeed(n api.LineNeed) bool {
	return within(int(n), int(api.LineFree), int(api.LineBack))
}

func isPlace(p api.LinePlace) bool {
	return within(int(p), int(api.LineBehind), int(api.LineBefore))
}
