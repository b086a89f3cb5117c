package club

import (
	"strings"

	"nock/api"
	"nock/arrow"
	"nock/bracket"
	"nock/butt"
	"nock/card"
	"nock/face"
	"nock/field"
	"nock/line"
	"nock/record"
	"nock/round"
)

// part is a part of a file: its word, what prints its lines, and what reads them, which returns the number of a wrong line among them.
type part struct {
	word  string
	print func(b checkedBook) string
	read  func(d *draft, text string) (number int, f api.Foul)
}

func parts() []part {
	return []part{
		{word: "stock", print: checkedBook.printStock, read: (*draft).readStock},
		{word: "sight", print: checkedBook.printSight, read: (*draft).readSight},
		{word: "face", print: checkedBook.printFace, read: (*draft).readFace},
		{word: "card", print: checkedBook.printCard, read: (*draft).readCard},
		{word: "round", print: checkedBook.printRound, read: (*draft).readRound},
		{word: "bracket", print: checkedBook.printBracket, read: (*draft).readBracket},
		{word: "line", print: checkedBook.printPlan, read: (*draft).readPlan},
		{word: "state", print: checkedBook.printState, read: (*draft).readState},
		{word: "field", print: checkedBook.printField, read: (*draft).readField},
		{word: "butt", print: checkedBook.printButt, read: (*draft).readButt},
		{word: "record", print: checkedBook.printRecord, read: (*draft).readRecord},
	}
}

// What prints a part has no foul: the book was checked.

func (b checkedBook) printStock() string {
	text, _ := arrow.PrintStock(b.Stock)
	return text
}

func (b checkedBook) printSight() string {
	text, _ := arrow.PrintCard(b.Sight)
	return text
}

func (b checkedBook) printFace() string {
	text, _ := face.Print(b.End)
	return text
}

func (b checkedBook) printCard() string {
	text, _ := card.Print(b.Sheet)
	return text
}

func (b checkedBook) printRound() string {
	text, _ := round.Print(b.Round)
	return text
}

func (b checkedBook) printBracket() string {
	text, _ := bracket.Print(b.Bracket)
	return text
}

func (b checkedBook) printPlan() string {
	text, _ := line.Print(b.Plan, b.Watch)
	return text
}

func (b checkedBook) printState() string {
	return printEntry(stateWord, stateEntry{b.State})
}

func (b checkedBook) printField() string {
	text, _ := field.Print(b.Course)
	return text
}

func (b checkedBook) printButt() string {
	text, _ := butt.Print(b.Boss, b.Ground)
	return text
}

func (b checkedBook) printRecord() string {
	text, _ := record.Print(b.Records)
	return text
}

// draft is a book of which some parts were read.
type draft struct{ api.ClubBook }

func (d *draft) readStock(text string) (number int, f api.Foul) {
	d.Stock, number, f = arrow.ParseStock(text)
	return number, f
}

func (d *draft) readSight(text string) (number int, f api.Foul) {
	d.Sight, number, f = arrow.ParseCard(text)
	return number, f
}

func (d *draft) readFace(text string) (number int, f api.Foul) {
	d.End, number, f = face.Parse(text)
	return number, f
}

func (d *draft) readCard(text string) (number int, f api.Foul) {
	d.Sheet, number, f = card.Parse(text)
	return number, f
}

func (d *draft) readRound(text string) (number int, f api.Foul) {
	d.Round, number, f = round.Parse(text)
	return number, f
}

func (d *draft) readBracket(text string) (number int, f api.Foul) {
	d.Bracket, number, f = bracket.Parse(text)
	return number, f
}

func (d *draft) readPlan(text string) (number int, f api.Foul) {
	d.Plan, d.Watch, number, f = line.Parse(text)
	return number, f
}

func (d *draft) readState(text string) (number int, f api.Foul) {
	// A line feed between two lines would stand in a field, and no field has this form.
	e, err := readEntry(strings.TrimSuffix(text, "\n"), 1)
	if number, f := foulOf(err); f != api.Fair {
		return number, f
	}
	x, is := e.(stateEntry)
	if !is {
		return 1, api.BadForm
	}
	d.State = x.LineState
	return 1, line.CheckState(d.Plan, d.State)
}

func (d *draft) readField(text string) (number int, f api.Foul) {
	d.Course, number, f = field.Parse(text)
	return number, f
}

func (d *draft) readButt(text string) (number int, f api.Foul) {
	d.Boss, d.Ground, number, f = butt.Parse(text)
	return number, f
}

func (d *draft) readRecord(text string) (number int, f api.Foul) {
	d.Records, number, f = record.Parse(text)
	return number, f
}
