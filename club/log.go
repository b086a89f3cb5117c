package club

import "nock/api"

// checkCommands returns the index of the first command with a foul, and its foul.
func checkCommands(l []api.ClubCommand) (index int, f api.Foul) {
	for i, c := range l {
		if f := CheckCommand(c); f != api.Fair {
			return i, f
		}
	}
	return 0, api.Fair
}

// WriteLog returns commands as a text.
func WriteLog(l []api.ClubCommand) (string, api.Foul) {
	if len(l) > api.MaxClubLines {
		return "", api.BadCount
	}
	if _, f := checkCommands(l); f != api.Fair {
		return "", f
	}
	text := ""
	for _, c := range l {
		text += printEntry(commandKinds()[c.Kind].word, commandEntry{c})
	}
	return text, api.Fair
}

// readLog reads commands line by line.
func readLog(text string) (l []api.ClubCommand, err error) {
	for number, next := range linesOf(text) {
		e, err := readEntry(next, number)
		if err != nil {
			return nil, err
		}
		c, is := e.(commandEntry)
		if !is {
			return nil, wrongLine{number, api.BadForm}
		}
		l = append(l, c.ClubCommand)
	}
	if i, f := checkCommands(l); f != api.Fair {
		return nil, wrongLine{i + 1, f}
	}
	return l, nil
}

// ReadLog reads commands from a text; with the foul of a line it returns its number.
func ReadLog(text string) (l []api.ClubCommand, line int, f api.Foul) {
	if f := checkLength(text); f != api.Fair {
		return nil, 0, f
	}
	l, err := readLog(text)
	line, f = foulOf(err)
	return l, line, f
}
