package field_test

import (
	"math/rand"
	"strings"
	"testing"

	"nock/api"
	"nock/field"
)

const exampleText = "course 60 4\nsize 5..15\nsize 10..18\npath 0 1 40\npath 1 2 30\npath 2 3 30\npath 0 3 80\npeg a 20 0..12 1 1 4..6 2..3 1\npeg b 13 5 0 2 4..5 3 2\npeg c 25 -7..7 1 3 5 2..4 -\ngroup red 0 0\ngroup blue 1 0\n"

// P7.5: what is printed, byte for byte.
func TestPrint(t *testing.T) {
	few := api.FieldCourse{Limit: 1, Points: 1, Sizes: []api.Span{only(0)}, Pegs: []api.FieldPeg{
		{Name: "z", Slant: span(7, 90), Rise: only(-7), Shoot: only(60), Walk: only(0)},
		{Name: "a0", Slant: only(1), Rise: span(-1, 1), Shoot: span(1, 60), Walk: span(0, 60)},
	}}
	for _, x := range []struct {
		c    api.FieldCourse
		want string
	}{
		{exampleCourse(), exampleText},
		{few, "course 1 1\nsize 0\npeg z 7..90 -7 0 0 60 0 -\npeg a0 1 -1..1 0 0 1..60 0..60 -\n"},
		{withCourse(func(c *api.FieldCourse) { c.Groups = nil }), strings.Split(exampleText, "group")[0]},
		{withCourse(func(c *api.FieldCourse) { c.Pegs[1].Lane, c.Groups[1].Delay = list(0, 2, 3), 12 }), strings.NewReplacer("4..5 3 2\n", "4..5 3 0/2/3\n", "blue 1 0", "blue 1 12").Replace(exampleText)},
		{withCourse(func(c *api.FieldCourse) { c.Pegs[0].Rise, c.Paths[0] = span(-12, -3), path(3, 1, 999) }), strings.NewReplacer("0..12", "-12..-3", "path 0 1 40", "path 3 1 999").Replace(exampleText)},
	} {
		if s, f := field.Print(x.c); s != x.want || f != api.Fair {
			t.Error(s, f)
		}
		if c, n, f := field.Parse(x.want); !sameCourse(c, x.c) || n != 0 || f != api.Fair {
			t.Error(x.want, c, n, f)
		}
	}
}

// P7.5: the foul of a course that cannot be printed.
func TestPrintFouls(t *testing.T) {
	for want, c := range map[api.Foul]api.FieldCourse{
		api.OffLimits: {},
		api.BadCount:  withCourse(func(c *api.FieldCourse) { c.Pegs = c.Pegs[:1] }),
		api.BadName:   withCourse(func(c *api.FieldCourse) { c.Groups[1].Name = "a b" }),
		api.Circular:  withCourse(func(c *api.FieldCourse) { c.Paths[1].Two = 1 }),
		api.Against:   withCourse(func(c *api.FieldCourse) { c.Pegs[0].Rise.Max = 21 }),
	} {
		if s, f := field.Print(c); s != "" || f != want {
			t.Error(want, s, f)
		}
	}
}

// P7.5: what is read, with the last line feed and without.
func TestParse(t *testing.T) {
	for _, text := range []string{exampleText, strings.TrimSuffix(exampleText, "\n")} {
		c, n, f := field.Parse(text)
		if !sameCourse(c, exampleCourse()) || n != 0 || f != api.Fair {
			t.Error(c, n, f)
		}
	}
}

// P7.5: what is printed is parsed as it was, and printed again it is the same text.
func TestRoundTrip(t *testing.T) {
	r := rand.New(rand.NewSource(86))
	courses := []api.FieldCourse{greatCourse()}
	for range 500 {
		courses = append(courses, randomCourse(r, pick(r, []scale{small, middle, great})))
	}
	for _, c := range courses {
		text, f := field.Print(c)
		fair(t, f)
		o, n, f := field.Parse(text)
		if !sameCourse(o, c) || n != 0 || f != api.Fair {
			t.Fatal(c, text, o, n, f)
		}
		if again, f := field.Print(o); again != text || f != api.Fair {
			t.Fatal(text, again, f)
		}
	}
}

type parsed struct {
	line int
	f    api.Foul
}

const (
	head   = "course 9 2\n"
	size   = "size 1..9\n"
	path1  = "path 0 1 5\n"
	peg    = "peg a 5 0 0 0 3 1 -\n"
	other  = "peg b 5 -1..1 0 1 3 1 -\n"
	pegs   = peg + other
	group1 = "group g 0 0\n"
	whole  = head + size + path1 + pegs
)

func checkForms(t *testing.T, texts map[string]parsed) {
	t.Helper()
	for text, want := range texts {
		c, n, f := field.Parse(text)
		if (parsed{n, f}) != want {
			t.Errorf("%q: %d %d", text, n, f)
		}
		if f != api.Fair && !sameCourse(c, api.FieldCourse{}) {
			t.Errorf("%q: %v", text, c)
		}
	}
}

// P7.5: which lines stand where.
func TestParseOrder(t *testing.T) {
	texts := map[string]parsed{
		"":                                {0, api.BadForm},
		"\n":                              {1, api.BadForm},
		"\n\n":                            {1, api.BadForm},
		" ":                               {1, api.BadForm},
		"x":                               {1, api.BadForm},
		"\n" + whole:                      {1, api.BadForm},
		head:                              {0, api.BadCount},
		head + size:                       {0, api.BadCount},
		head + path1:                      {0, api.BadCount},
		head + pegs:                       {0, api.BadCount},
		head + group1:                     {0, api.BadCount},
		head + size + group1:              {0, api.BadCount},
		head + size + peg:                 {0, api.BadCount},
		head + size + pegs:                {0, api.Fair},
		head + size + size + pegs:         {0, api.Fair},
		whole:                             {0, api.Fair},
		whole + group1:                    {0, api.Fair},
		head + size + pegs + group1:       {0, api.Fair},
		whole + group1 + "group h 1 12\n": {0, api.Fair},
		whole + "\n":                      {6, api.BadForm},
		whole + "x":                       {6, api.BadForm},
		whole + group1 + "\n":             {7, api.BadForm},
		head + "\n" + size + pegs:         {2, api.BadForm},
		head + "x\nx\n" + pegs:            {2, api.BadForm},
		head + size + "x\n" + pegs:        {3, api.BadForm},
		"x\n" + whole:                     {1, api.BadForm},
	}
	lines := []string{head, size, path1, peg, group1}
	before := []string{"", head, head + size, head + size + path1, whole}
	for i, line := range lines {
		if i > 0 {
			// No other line is the first one.
			texts[line] = parsed{1, api.BadForm}
			texts[line+whole] = parsed{1, api.BadForm}
		}
		for later := i + 1; later < len(lines); later++ {
			// After a later one no line of this kind is possible.
			text := before[later] + lines[later]
			texts[text+line] = parsed{strings.Count(text, "\n") + 1, api.BadForm}
		}
	}
	texts[head+head] = parsed{2, api.BadForm}
	texts[head+head+size+pegs] = parsed{2, api.BadForm}
	texts[head+path1+size+pegs] = parsed{3, api.BadForm}
	texts[head+size+group1+path1+pegs] = parsed{4, api.BadForm}
	texts[head+group1+pegs] = parsed{3, api.BadForm}
	checkForms(t, texts)
}

// P7.5: fouls of the course, after all lines.
func TestParseFouls(t *testing.T) {
	checkForms(t, map[string]parsed{
		"course 0 2\n" + size + pegs:                    {0, api.OffLimits},
		"course 0 2\n" + size + pegs + "x":              {5, api.BadForm},
		"course 9 7\n" + size + pegs:                    {0, api.OffLimits},
		"course 1000 2\n" + pegs:                        {0, api.OffLimits},
		"course 9 1\n" + size + pegs:                    {0, api.Unknown},
		head + strings.Repeat(size, 3) + pegs:           {0, api.Fair},
		head + strings.Repeat(size, 4) + pegs:           {0, api.BadCount},
		head + "size 9..1\n" + pegs:                     {0, api.OffLimits},
		head + "size 1..91\n" + pegs:                    {0, api.OffLimits},
		head + "size -1..9\n" + pegs:                    {0, api.OffLimits},
		head + size + "path 0 2 5\n" + pegs:             {0, api.Unknown},
		head + size + "path -1 1 5\n" + pegs:            {0, api.Unknown},
		head + size + "path 1 1 5\n" + pegs:             {0, api.Circular},
		head + size + "path 0 1 0\n" + pegs:             {0, api.OffLimits},
		head + size + path1 + "path 1 0 5\n" + pegs:     {0, api.Twice},
		head + size + strings.Repeat(path1, 10) + pegs:  {0, api.BadCount},
		head + size + peg + peg:                         {0, api.Twice},
		head + size + pegs + strings.Repeat(peg, 4):     {0, api.BadCount},
		head + size + peg + "peg B 5 0 0 0 3 1 -\n":     {0, api.BadName},
		head + size + peg + "peg - 5 0 0 0 3 1 -\n":     {0, api.BadName},
		head + size + peg + "peg \xff 5 0 0 0 3 1 -\n":  {0, api.BadName},
		head + size + peg + "peg b 0 0 0 0 3 1 -\n":     {0, api.OffLimits},
		head + size + peg + "peg b 9..5 0 0 0 3 1 -\n":  {0, api.OffLimits},
		head + size + peg + "peg b 5 1..-1 0 0 3 1 -\n": {0, api.OffLimits},
		head + size + peg + "peg b 5 6 0 0 3 1 -\n":     {0, api.Against},
		head + size + peg + "peg b 5 -6 0 0 3 1 -\n":    {0, api.Against},
		head + size + peg + "peg b 5 -5..5 0 0 3 1 -\n": {0, api.Fair},
		head + size + peg + "peg b 5 0 1 0 3 1 -\n":     {0, api.Unknown},
		head + size + peg + "peg b 5 0 -1 0 3 1 -\n":    {0, api.Unknown},
		head + size + peg + "peg b 5 0 0 2 3 1 -\n":     {0, api.Unknown},
		head + size + peg + "peg b 5 0 0 0 0 1 -\n":     {0, api.OffLimits},
		head + size + peg + "peg b 5 0 0 0 3 -1 -\n":    {0, api.OffLimits},
		head + size + peg + "peg b 5 0 0 0 3 1 0\n":     {0, api.Unknown},
		whole + "group g 2 0\n":                         {0, api.Unknown},
		whole + "group g -1 0\n":                        {0, api.Unknown},
		whole + "group G 0 0\n":                         {0, api.BadName},
		whole + "group g 0 13\n":                        {0, api.OffLimits},
		whole + "group g 0 -1\n":                        {0, api.OffLimits},
		whole + group1 + group1:                         {0, api.Twice},
		whole + group1 + "group h 0 0\n":                {0, api.Against},
		whole + strings.Repeat(group1, 4):               {0, api.BadCount},
		whole + group1 + group1 + "group h 0\n":         {8, api.BadForm},
	})
}

// P7.5, R9: the forms of words, numbers, spans, lists and blanks.
func TestParseForms(t *testing.T) {
	texts := make(map[string]parsed)
	before := map[string]string{"course": "", "size": head, "path": head + size, "peg": head + size + path1 + other, "group": whole}
	after := map[string]string{"course": size + pegs, "size": pegs, "path": pegs}
	for form, want := range map[string]api.Foul{
		"course": api.BadForm, "course ": api.BadForm, "course 9": api.BadForm, "course 9 ": api.BadForm, "course 9 2": api.Fair, "course 9 2 ": api.BadForm, "course 9 2 2": api.BadForm, "course  9 2": api.BadForm, "course 9  2": api.BadForm, " course 9 2": api.BadForm, "Course 9 2": api.BadForm, "courses 9 2": api.BadForm, "course\t9 2": api.BadForm, "course 9 2\r": api.BadForm, "course 9 2\x00": api.BadForm, "course 9..10 2": api.BadForm, "course 9 1..2": api.BadForm, "course 9 1/2": api.BadForm, "course - 2": api.BadForm, "course 9 -": api.BadForm, "course x 2": api.BadForm, "course 9 x": api.BadForm, "course 9 2x": api.BadForm, "course 9 x2": api.BadForm,
		"course 09 2": api.BadForm, "course 9 02": api.BadForm, "course 00 2": api.BadForm, "course +9 2": api.BadForm, "course -0 2": api.BadForm, "course -09 2": api.BadForm, "course --9 2": api.BadForm, "course 9- 2": api.BadForm, "course 0x9 2": api.BadForm, "course 1_0 2": api.BadForm, "course 9.0 2": api.BadForm, "course 1e1 2": api.BadForm, "course 9/ 2": api.BadForm, "course 9: 2": api.BadForm, "course ٣ 2": api.BadForm, "course \xff 2": api.BadForm, "course 0 2": api.OffLimits, "course -9 2": api.OffLimits, "course 999 2": api.Fair, "course 1000 2": api.OffLimits, "course 999999999 2": api.OffLimits, "course -999999999 2": api.OffLimits, "course 1000000000 2": api.BadForm, "course -1000000000 2": api.BadForm, "course 4294967305 2": api.BadForm, "course 18446744073709551625 2": api.BadForm, "course 9 10": api.OffLimits,
		"size": api.BadForm, "size ": api.BadForm, "size 9": api.Fair, "size 0": api.Fair, "size 1..9": api.Fair, "size 0..90": api.Fair, "size 9 ": api.BadForm, "size 1..9 9": api.BadForm, "size 1 9": api.BadForm, "size  9": api.BadForm, "size 9..9": api.BadForm, "size 9..1": api.OffLimits, "size -1..-1": api.BadForm, "size -2..-1": api.OffLimits, "size 0..0": api.BadForm, "size -0..9": api.BadForm, "size 0..-0": api.BadForm, "size 1..": api.BadForm, "size ..9": api.BadForm, "size ..": api.BadForm, "size 1...9": api.BadForm, "size 1....9": api.BadForm, "size 1..5..9": api.BadForm, "size 1.9": api.BadForm, "size 01..9": api.BadForm, "size 1..09": api.BadForm, "size 1..+9": api.BadForm, "size +1..9": api.BadForm, "size 1..1234567890": api.BadForm, "size 1234567890..2": api.BadForm, "size 1..123456789": api.OffLimits, "size -": api.BadForm, "size 1/9": api.BadForm, "size 1.. 9": api.BadForm, "size x": api.BadForm, "size 1..x": api.BadForm, "size x..9": api.BadForm, "sizes 9": api.BadForm, "Size 9": api.BadForm, "size 1-9": api.BadForm, "size 1,9": api.BadForm,
		"path": api.BadForm, "path 0": api.BadForm, "path 0 1": api.BadForm, "path 0 1 ": api.BadForm, "path 0 1 5": api.Fair, "path 1 0 999": api.Fair, "path 0 1 5 5": api.BadForm, "path 0 1 5 ": api.BadForm, "path  0 1 5": api.BadForm, "path 0 1  5": api.BadForm, "path x 1 5": api.BadForm, "path 0 x 5": api.BadForm, "path 0 1 x": api.BadForm, "path 0..1 5": api.BadForm, "path 0 1 5..6": api.BadForm, "path 0/1 5": api.BadForm, "path 0 1 -": api.BadForm, "path - 1 5": api.BadForm, "path 00 1 5": api.BadForm, "path 0 01 5": api.BadForm, "path 0 1 05": api.BadForm, "path 0 1 -5": api.OffLimits, "path 0 1 1000": api.OffLimits, "path 0 0 5": api.Circular, "path -1 0 5": api.Unknown, "path 0 5 1": api.Unknown, "paths 0 1 5": api.BadForm, "path\x000 1 5": api.BadForm,
		"peg": api.BadForm, "peg a": api.BadForm, "peg a 5 0 0 0 3 1": api.BadForm, "peg a 5 0 0 0 3 1 ": api.BadForm, "peg a 5 0 0 0 3 1 -": api.Fair, "peg a 5 0 0 0 3 1 - ": api.BadForm, "peg a 5 0 0 0 3 1 - -": api.BadForm, "peg a 5 0 0 0 3 1 - 0": api.BadForm, "peg  5 0 0 0 3 1 -": api.BadForm, "peg 5 0 0 0 3 1 -": api.BadForm, "peg a 5  0 0 0 3 1 -": api.BadForm, "pegs a 5 0 0 0 3 1 -": api.BadForm, "Peg a 5 0 0 0 3 1 -": api.BadForm,
		"peg a x 0 0 0 3 1 -": api.BadForm, "peg a 5 x 0 0 3 1 -": api.BadForm, "peg a 5 0 x 0 3 1 -": api.BadForm, "peg a 5 0 0 x 3 1 -": api.BadForm, "peg a 5 0 0 0 x 1 -": api.BadForm, "peg a 5 0 0 0 3 x -": api.BadForm, "peg a 5 0 0 0 3 1 x": api.BadForm,
		"peg a 5..6 0 0 0 3 1 -": api.Fair, "peg a 5 -5..5 0 0 3 1 -": api.Fair, "peg a 5 -5..-4 0 0 3 1 -": api.Fair, "peg a 5 -5 0 0 3 1 -": api.Fair, "peg a 5 0 0..1 0 3 1 -": api.BadForm, "peg a 5 0 0 0..1 3 1 -": api.BadForm, "peg a 5 0 0 0 3..4 1 -": api.Fair, "peg a 5 0 0 0 3 1..2 -": api.Fair, "peg a 5 0 0 0 3 1 0..1": api.BadForm, "peg a 5..5 0 0 0 3 1 -": api.BadForm, "peg a 5 0..0 0 0 3 1 -": api.BadForm, "peg a 5 0 0 0 3..3 1 -": api.BadForm, "peg a 5 0 0 0 3 1..1 -": api.BadForm, "peg a 5/6 0 0 0 3 1 -": api.BadForm, "peg a 5 -0 0 0 3 1 -": api.BadForm, "peg a 5 -1..-0 0 0 3 1 -": api.BadForm, "peg a 5 - 0 0 3 1 -": api.BadForm, "peg a 5 0 - 0 3 1 -": api.BadForm, "peg a 5 0 0 0 3 - -": api.BadForm, "peg a 6..5 0 0 0 3 1 -": api.OffLimits, "peg a 5 0 0 0 3 2..1 -": api.OffLimits, "peg a 5 0 0 0 4..3 1 -": api.OffLimits,
		"peg a 5 0 0 0 3 1 0": api.Fair, "peg a 5 0 0 0 3 1 1": api.Unknown, "peg a 5 0 0 0 3 1 -1": api.Unknown, "peg a 5 0 0 0 3 1 0/0": api.OutOfOrder, "peg a 5 0 0 0 3 1 0/1": api.Unknown, "peg a 5 0 0 0 3 1 0/": api.BadForm, "peg a 5 0 0 0 3 1 /0": api.BadForm, "peg a 5 0 0 0 3 1 /": api.BadForm, "peg a 5 0 0 0 3 1 0//1": api.BadForm, "peg a 5 0 0 0 3 1 0/-": api.BadForm, "peg a 5 0 0 0 3 1 -/0": api.BadForm, "peg a 5 0 0 0 3 1 --": api.BadForm, "peg a 5 0 0 0 3 1 0,1": api.BadForm, "peg a 5 0 0 0 3 1 00": api.BadForm, "peg a 5 0 0 0 3 1 -0": api.BadForm, "peg a 5 0 0 0 3 1 0/01": api.BadForm, "peg a 5 0 0 0 3 1 0/ 1": api.BadForm, "peg a 5 0 0 0 3 1 0/x": api.BadForm, "peg a 5 0 0 0 3 1 0/1000000000": api.BadForm, "peg a 5 0 0 0 3 1 0/999999999": api.Unknown,
		"peg A 5 0 0 0 3 1 -": api.BadName, "peg 1 5 0 0 0 3 1 -": api.BadName, "peg - 5 0 0 0 3 1 -": api.BadName, "peg ä 5 0 0 0 3 1 -": api.BadName, "peg a\r 5 0 0 0 3 1 -": api.BadName, "peg a/b 5 0 0 0 3 1 -": api.BadName, "peg b 5 0 0 0 3 1 -": api.Twice, "peg size 5 0 0 0 3 1 -": api.Fair, "peg a\t5 0 0 0 3 1 -": api.BadForm,
		"group": api.BadForm, "group g": api.BadForm, "group g 0": api.BadForm, "group g 0 ": api.BadForm, "group g 0 0": api.Fair, "group g 1 12": api.Fair, "group g 0 0 0": api.BadForm, "group g 0 0 ": api.BadForm, "group  g 0 0": api.BadForm, "group g  0 0": api.BadForm, "group  0 0": api.BadForm, "group 0 0": api.BadForm, "group g x 0": api.BadForm, "group g 0 x": api.BadForm, "group g 00 0": api.BadForm, "group g 0 00": api.BadForm, "group g 0 0..1": api.BadForm, "group g 0 -": api.BadForm, "group g - 0": api.BadForm, "group g 0/1 0": api.BadForm, "group g 0 13": api.OffLimits, "group g 2 0": api.Unknown, "group 0 0 0": api.BadName, "group G 0 0": api.BadName, "group a 0 0": api.Fair, "groups g 0 0": api.BadForm, "Group g 0 0": api.BadForm,
	} {
		word := strings.TrimRight(strings.ToLower(strings.FieldsFunc(form, func(c rune) bool { return c <= ' ' })[0]), "s")
		number := 0
		if want == api.BadForm {
			number = strings.Count(before[word], "\n") + 1
		}
		texts[before[word]+form+"\n"+after[word]] = parsed{number, want}
	}
	checkForms(t, texts)
}

// P7.5: a text may have just MaxText bytes.
func TestParseLongTexts(t *testing.T) {
	for bytes, want := range map[int]parsed{api.MaxText: {1, api.BadForm}, api.MaxText + 1: {0, api.BadCount}} {
		for _, letter := range []string{"c", "\n", " ", "/", "ä"} {
			text := strings.Repeat(letter, bytes)[:bytes]
			if c, n, f := field.Parse(text); (parsed{n, f}) != want || !sameCourse(c, api.FieldCourse{}) {
				t.Error(bytes, n, f)
			}
		}
	}
	// Very many sizes, paths, pegs, groups or elements of a lane have their form.
	for _, x := range []struct {
		before, part, after string
		want                api.Foul
	}{
		{head, size, pegs, api.BadCount},
		{head + size, path1, pegs, api.BadCount},
		{whole, peg, "", api.BadCount},
		{whole, group1, "", api.BadCount},
		{head + size + peg + "peg b 5 0 0 0 3 1 0", "/0", "\n", api.Unknown},
		{head + size + path1 + peg + "peg b 5 0 0 0 3 1 0", "/0", "\n", api.OutOfOrder},
		{head + size + peg + "peg ", "b", " 5 0 0 0 3 1 -\n", api.BadName},
	} {
		many := (api.MaxText - len(x.before) - len(x.after)) / len(x.part)
		text := x.before + strings.Repeat(x.part, many) + x.after
		if c, n, f := field.Parse(text); n != 0 || f != x.want || !sameCourse(c, api.FieldCourse{}) {
			t.Error(x.part, n, f)
		}
		text += strings.Repeat("x", api.MaxText+1-len(text))
		if c, n, f := field.Parse(text); n != 0 || f != api.BadCount || !sameCourse(c, api.FieldCourse{}) {
			t.Error(x.part, n, f)
		}
	}
}
