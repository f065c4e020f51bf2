package tests

import (
	"fmt"
	"regexp"
	"strconv"
	"strings"
	"testing"

	"loop.example/g00861/impl"
)

// The libraries that the tests of layer 4 use, and a writer and a reader of texts that follow
// chapter 4 on their own.

func library(cells ...impl.Cell) impl.Library {
	return impl.Library{Cells: cells}
}

// named returns a cell with another name.
func named(name string, c impl.Cell) impl.Cell {
	c.Name = name
	return c
}

// gatesWithInputs returns gates with each number of inputs and some truth tables, without arcs and
// with an arc of some sense from each input.
func gatesWithInputs() []impl.Cell {
	var list []impl.Cell
	for inputs := 1; inputs <= 4; inputs++ {
		for _, bits := range []int{0, 1, 0b1010_0110_1100_1001, 0xffff} {
			bare := gate(truthOf(bits, inputs))
			full := gate(truthOf(bits, inputs))
			for from := range int64(inputs) {
				full.Arcs = append(full.Arcs, arc(impl.ArcComb, from, int64(inputs), 1+(from+int64(bits))%3))
			}
			list = append(list, bare, full)
		}
	}
	return list
}

// longestCell returns a latch with the longest text.
func longestCell(name string) impl.Cell {
	c := fullLatch(impl.MaxArcs)
	c.Arcs[6], c.Arcs[7] = arc(impl.ArcComb, 3, 4, impl.SenseBoth), arc(impl.ArcComb, 2, 4, impl.SenseBoth)
	c.Arcs[0].Sense = impl.SenseBoth
	for i := range c.Arcs {
		least := int64(mostValue)
		if kind := c.Arcs[i].Kind; kind == impl.ArcSetup || kind == impl.ArcHold {
			least = -mostValue
		}
		long := table(nums(99997, 99998, 99999, 100000), nums(99997, 99998, 99999, 100000))
		for len(long.Values) < 16 {
			long.Values = append(long.Values, least)
		}
		for k := range c.Arcs[i].Delay {
			c.Arcs[i].Delay[k] = long
		}
		for k := range c.Arcs[i].Slew {
			c.Arcs[i].Slew[k] = long
		}
	}
	for i := range c.Pins {
		c.Pins[i].Name = "pinname" + strconv.Itoa(i)
		if c.Pins[i].Dir == impl.PinIn {
			c.Pins[i].Cap = impl.MaxPinCap
		}
	}
	c.Name, c.Leak, c.Energy = name, impl.MaxPowerValue, impl.MaxPowerValue
	return c
}

func longestLibrary() impl.Library {
	var l impl.Library
	for i := range impl.MaxCells {
		l.Cells = append(l.Cells, longestCell("longest"+strconv.Itoa(i)))
	}
	return l
}

// sampleLibraries are valid libraries of no, one and several cells, with cells of each kind in
// each place.
func sampleLibraries() []impl.Library {
	list := []impl.Library{{}, longestLibrary()}
	cells := append(validCells(), gatesWithInputs()...)
	for i, c := range cells {
		list = append(list, library(c))
		several := library()
		for k := range 2 + i%7 {
			several.Cells = append(several.Cells, named("c"+strconv.Itoa(k), cells[(i+5*k)%len(cells)]))
		}
		list = append(list, several)
	}
	for _, kind := range []func() impl.Cell{xor, risingFlop, fallingFlop, plainLatch} {
		list = append(list, library(kind(), named("k2", kind())), library(named("a", kind()), named("b", kind()), named("c", kind())))
	}
	return list
}

// sameCells compares all fields of libraries, without regard to nil and empty lists.
func sameCells(a, b impl.Library) bool {
	return fmt.Sprintf("%+v", a) == fmt.Sprintf("%+v", b)
}

var (
	kindWords  = []string{"", "gate", "flop", "latch"}
	arcWords   = []string{"", "comb", "rise", "fall", "setup", "hold"}
	senseWords = []string{"", "pos", "neg", "both"}
)

// arcLine returns the line of an arc of a valid cell, without its newline.
func arcLine(c impl.Cell, a impl.Arc) string {
	text := fmt.Sprintf("arc %s %s %s", arcWords[a.Kind], c.Pins[a.From].Name, c.Pins[a.To].Name)
	if a.Sense != 0 {
		text += " " + senseWords[a.Sense]
	}
	for _, tables := range [][]impl.Table{a.Delay, a.Slew} {
		for _, t := range tables {
			lists := fmt.Sprint(t.Slews, "|", t.Loads, "|", t.Values)
			text += " " + strings.NewReplacer("[", "", "]", "", " ", ",").Replace(strings.ReplaceAll(lists, " | ", "|"))
		}
	}
	return text
}

// textOfCell returns the lines of a valid cell.
func textOfCell(c impl.Cell) string {
	text := fmt.Sprintf("cell %s %s %d %d\n", c.Name, kindWords[c.Kind], c.Leak, c.Energy)
	for _, p := range c.Pins {
		switch {
		case p.Dir == impl.PinOut:
			text += fmt.Sprintf("pin %s out\n", p.Name)
		case p.Clock:
			text += fmt.Sprintf("pin %s clock %d\n", p.Name, p.Cap)
		default:
			text += fmt.Sprintf("pin %s in %d\n", p.Name, p.Cap)
		}
	}
	for _, a := range c.Arcs {
		text += arcLine(c, a) + "\n"
	}
	if c.Kind == impl.CellGate {
		text += "truth "
		for _, v := range c.Truth {
			text += strconv.FormatInt(v, 10)
		}
		text += "\n"
	}
	return text
}

func textOfLibrary(l impl.Library) string {
	text := ""
	for _, c := range l.Cells {
		text += textOfCell(c)
	}
	return text
}

const (
	nameForm  = `[a-z][a-z0-9]{0,7}`
	powerForm = `(?:0|[1-9][0-9]{0,4}|100000)`
	capForm   = `(?:0|[1-9][0-9]?|[1-4][0-9]{2}|500)`
)

// lineForms are the forms of the lines of each kind, whose tables need not be valid.
var lineForms = []*regexp.Regexp{
	1: regexp.MustCompile(`\Acell ` + nameForm + ` (?:gate|flop|latch) ` + powerForm + ` ` + powerForm + `\z`),
	2: regexp.MustCompile(`\Apin ` + nameForm + ` (?:out|(?:in|clock) ` + capForm + `)\z`),
	3: regexp.MustCompile(`\Aarc (?:` +
		`comb ` + nameForm + ` ` + nameForm + ` (?:pos|neg|both)(?: [^ ]*[|][^ ]*){4}|` +
		`(?:rise|fall) ` + nameForm + ` ` + nameForm + `(?: [^ ]*[|][^ ]*){4}|` +
		`(?:setup|hold) ` + nameForm + ` ` + nameForm + `(?: [^ ]*[|][^ ]*){2})\z`),
	4: regexp.MustCompile(`\Atruth (?:[01]{2}|[01]{4}|[01]{8}|[01]{16})\z`),
}

// kindByForm returns the kind of a line that can be a line of a text, and 0 for others.
func kindByForm(line string) int64 {
	for kind, form := range lineForms {
		if form == nil || !form.MatchString(line) {
			continue
		}
		for word := range strings.SplitSeq(line, " ") {
			if _, ok := tableOfText(word); strings.Contains(word, "|") != ok {
				return 0
			}
		}
		return int64(kind)
	}
	return 0
}

// firstWrong returns the number of the first line of a text that can be none or lacks its newline,
// or 0 if there is none.
func firstWrong(text string) int64 {
	lines := strings.Split(text, "\n")
	last := len(lines) - 1
	for i, line := range lines {
		if i < last && kindByForm(line) == 0 || i == last && line != "" {
			return int64(i + 1)
		}
	}
	return 0
}

// libraryOfText returns the valid library with a text whose lines are right by themselves, and
// whether there is one.
func libraryOfText(text string) (impl.Library, bool) {
	var l impl.Library
	for line := range strings.Lines(text) {
		words := strings.Fields(line)
		if words[0] == "cell" {
			l.Cells = append(l.Cells, cellOfWords(words))
		} else if len(l.Cells) == 0 {
			return impl.Library{}, false
		}
		c := &l.Cells[len(l.Cells)-1]
		switch words[0] {
		case "pin":
			c.Pins = append(c.Pins, pinOfWords(words))
		case "arc":
			c.Arcs = append(c.Arcs, arcOfWords(words, c.Pins))
		case "truth":
			for _, digit := range words[1] {
				c.Truth = append(c.Truth, int64(digit-'0'))
			}
		}
	}
	if !impl.IsLibrary(l) || textOfLibrary(l) != text {
		return impl.Library{}, false
	}
	return l, true
}

func numberOf(word string) int64 {
	v, _ := strconv.ParseInt(word, 10, 64)
	return v
}

// placeOf returns the place of a word in a list, or 0 if it is not there.
func placeOf(word string, list []string) int64 {
	for i, w := range list {
		if w == word {
			return int64(i)
		}
	}
	return 0
}

func cellOfWords(words []string) impl.Cell {
	return impl.Cell{Name: words[1], Kind: placeOf(words[2], kindWords), Leak: numberOf(words[3]), Energy: numberOf(words[4])}
}

func pinOfWords(words []string) impl.Pin {
	if words[2] == "out" {
		return out(words[1])
	}
	return impl.Pin{Name: words[1], Dir: impl.PinIn, Cap: numberOf(words[3]), Clock: words[2] == "clock"}
}

func arcOfWords(words []string, pins []impl.Pin) impl.Arc {
	a := impl.Arc{Kind: placeOf(words[1], arcWords), From: -1, To: -1}
	for i, p := range pins {
		if p.Name == words[2] {
			a.From = int64(i)
		}
		if p.Name == words[3] {
			a.To = int64(i)
		}
	}
	rest := words[4:]
	if a.Kind == impl.ArcComb {
		a.Sense, rest = placeOf(rest[0], senseWords), rest[1:]
	}
	for i, word := range rest {
		read, _ := tableOfText(word)
		if i < 2 {
			a.Delay = append(a.Delay, read)
		} else {
			a.Slew = append(a.Slew, read)
		}
	}
	return a
}

// checkRead compares ReadLibrary with what chapter 4 says of a text.
func checkRead(t *testing.T, text string) {
	t.Helper()
	want, line := impl.Library{}, firstWrong(text)
	isText := false
	if line == 0 {
		want, isText = libraryOfText(text)
	}
	code := int64(impl.ErrSyntax)
	switch {
	case len(text) > 60000:
		want, code, line = impl.Library{}, impl.ErrLimit, 0
	case isText:
		code = impl.ErrNone
	}
	checkAnswer(t, text, want, code, line)
}

// checkAnswer compares ReadLibrary with what it must answer for a text.
func checkAnswer(t *testing.T, text string, want impl.Library, code, line int64) {
	t.Helper()
	l, gotCode, gotLine := impl.ReadLibrary(text)
	if gotCode != code || gotLine != line || !sameCells(l, want) {
		t.Errorf("ReadLibrary(%.300q) = %d cells, %d, %d; want %d cells, %d, %d", text, len(l.Cells), gotCode, gotLine, len(want.Cells), code, line)
	}
}

// checkWrong looks whether ReadLibrary answers ErrSyntax and a line for a text.
func checkWrong(t *testing.T, text string, line int64) {
	t.Helper()
	checkAnswer(t, text, impl.Library{}, impl.ErrSyntax, line)
}
