package tests

import (
	"slices"
	"strings"
	"testing"

	"loop.example/g00861/impl"
)

// Promise 2, as far as it is about libraries: libraries are recovered from their texts. And the
// numbers of wrong lines.

func TestLibrariesAreRecovered(t *testing.T) {
	for _, l := range sampleLibraries() {
		text := impl.LibraryText(l)
		if text == "" && len(l.Cells) > 0 {
			t.Errorf("a library of %d cells has no text", len(l.Cells))
		}
		checkAnswer(t, text, l, impl.ErrNone, 0)
		read, _, _ := impl.ReadLibrary(text)
		if !impl.SameLibrary(l, read) || impl.LibraryText(read) != text {
			t.Errorf("%.200q is read as a library with the text %.200q", text, impl.LibraryText(read))
		}
	}
	for n := range impl.MaxCells + 1 {
		checkAnswer(t, impl.LibraryText(numbered(n)), numbered(n), impl.ErrNone, 0)
	}
}

// Every valid table is recovered in every place of every kind of arc that may have it.
func TestTablesOfArcsAreRecovered(t *testing.T) {
	for _, sample := range sampleTables() {
		for kind := int64(impl.ArcComb); kind <= impl.ArcHold; kind++ {
			for place := range 4 {
				c := cellWithEachArc(kind)
				if place < 2 {
					c.Arcs[0].Delay[place] = sample
				} else if len(c.Arcs[0].Slew) > 0 {
					c.Arcs[0].Slew[place-2] = sample
				}
				if impl.IsCell(c) {
					checkAnswer(t, impl.LibraryText(library(c)), library(c), impl.ErrNone, 0)
				} else {
					checkWrong(t, textOfCell(c), 0)
				}
			}
		}
	}
}

func TestNamesAreRecovered(t *testing.T) {
	for _, name := range append(goodNames(), "cell", "pin", "arc", "truth", "gate", "in", "out", "clock", "comb", "pos", "hold") {
		for _, c := range namedCells(name) {
			checkAnswer(t, impl.LibraryText(library(c)), library(c), impl.ErrNone, 0)
		}
	}
}

func TestNumbersOfCellsAreRecovered(t *testing.T) {
	for _, v := range []int64{0, 1, 9, 10, 99, 100, 499, 500, 501, 99999, 100000} {
		for _, fresh := range []func() impl.Cell{and, risingFlop, plainLatch} {
			leak, energy := fresh(), fresh()
			leak.Leak, energy.Energy = v, v
			checkAnswer(t, impl.LibraryText(library(leak)), library(leak), impl.ErrNone, 0)
			checkAnswer(t, impl.LibraryText(library(energy)), library(energy), impl.ErrNone, 0)
			for pin := range len(leak.Pins) - 1 {
				c := fresh()
				if c.Pins[pin].Cap = v; v <= impl.MaxPinCap {
					checkAnswer(t, impl.LibraryText(library(c)), library(c), impl.ErrNone, 0)
				} else {
					checkWrong(t, textOfCell(c), int64(2+pin))
				}
			}
		}
	}
}

func TestEmptyText(t *testing.T) {
	checkAnswer(t, "", impl.Library{}, impl.ErrNone, 0)
	checkWrong(t, "\n", 1)
	checkWrong(t, " ", 1)
	checkWrong(t, "\x00", 1)
}

func TestLimitOfTexts(t *testing.T) {
	const limit = 60000
	rights := strings.Repeat("pin y out\n", limit/10)
	all := impl.LibraryText(numbered(impl.MaxCells))
	checkWrong(t, rights, 0)
	checkWrong(t, rights[:limit-1], limit/10)
	checkWrong(t, strings.Repeat("\n", limit), 1)
	checkWrong(t, strings.Repeat("x", limit), 1)
	checkWrong(t, rights[:limit-10]+"pin z ouu\n", limit/10)
	checkWrong(t, all+strings.Repeat("\n", limit-len(all)), int64(strings.Count(all, "\n"))+1)
	for _, text := range []string{
		rights + "\n", rights + "x", "x" + rights, "\n" + rights, rights + all, all + rights, strings.Repeat("\n", limit+1), strings.Repeat("x", limit+1),
		strings.Repeat(" ", limit+1), all + strings.Repeat("\n", limit+1-len(all)), strings.Repeat("x", 1<<22), strings.Repeat(rights, 50),
	} {
		checkAnswer(t, text, impl.Library{}, impl.ErrLimit, 0)
	}
}

// severalLines are the lines of a text with lines of each kind.
func severalLines() []string {
	return linesOf(textOfLibrary(library(inverter(), risingFlop(), wideTables())))
}

func linesOf(text string) []string {
	return strings.Split(strings.TrimSuffix(text, "\n"), "\n")
}

func textOfLines(lines []string) string {
	return strings.Join(lines, "\n") + "\n"
}

// withLine returns lines with another one in a place.
func withLine(lines []string, place int, line string) []string {
	changed := slices.Clone(lines)
	changed[place] = line
	return changed
}

func TestLastLineLacksItsNewline(t *testing.T) {
	for _, l := range sampleLibraries()[1:] {
		text := impl.LibraryText(l)
		last := int64(strings.Count(text, "\n"))
		for _, end := range []string{"", "\r", " ", "\r\n", "\x00\n"} {
			checkWrong(t, text[:len(text)-1]+end, last)
		}
		checkWrong(t, text+"\n", last+1)
	}
	for _, line := range allRightLines() {
		checkWrong(t, line, 1)
		checkWrong(t, line+"\n"+line, 2)
		checkWrong(t, line+"\n\n", 2)
		checkWrong(t, line+"\n", 0)
	}
}

// Of every beginning of a text the last line is the first wrong one, unless it has its newline.
func TestBeginningsOfTexts(t *testing.T) {
	text := textOfLines(severalLines())
	for i := 1; i < len(text); i++ {
		if text[i-1] != '\n' {
			checkWrong(t, text[:i], int64(strings.Count(text[:i], "\n"))+1)
		}
		checkRead(t, text[:i])
		checkRead(t, text[i:])
	}
}

func TestNumberOfTheWrongLine(t *testing.T) {
	lines := severalLines()
	for i, line := range lines {
		for _, wrong := range []string{"", "x", " " + line, line + " ", "\t", "\r", "cell inv gate 3", "truth 011", "pin a in 501", strings.ToUpper(line)} {
			changed := withLine(lines, i, wrong)
			checkWrong(t, textOfLines(changed), int64(i+1))
			checkWrong(t, textOfLines(slices.Insert(slices.Clone(lines), i, wrong)), int64(i+1))
			for k := i + 1; k < len(lines); k++ {
				checkWrong(t, textOfLines(withLine(changed, k, "truth 2")), int64(i+1))
			}
		}
	}
}

// Each wrong line is found in the first, in a middle and in the last place.
func TestEveryWrongLineIsFound(t *testing.T) {
	lines := severalLines()
	for _, wrong := range wrongLines() {
		if len(wrong) > 1000 || strings.Contains(wrong, "\n") {
			continue
		}
		for _, place := range []int{0, len(lines) / 2, len(lines) - 1} {
			checkWrong(t, textOfLines(withLine(lines, place, wrong)), int64(place+1))
		}
	}
}

// A wrong line is found ahead of, between and behind lines that are right by themselves, but not
// in their places.
func TestWrongLinesAmongMisplacedOnes(t *testing.T) {
	for _, text := range textsOfNoLibrary() {
		n := int64(strings.Count(text, "\n"))
		for _, wrong := range []string{"", "x", "truth 012", "pin y out ", "cell a gate 0"} {
			checkWrong(t, wrong+"\n"+text, 1)
			checkWrong(t, text+wrong+"\n", n+1)
			checkWrong(t, text+wrong+"\n"+text+wrong, n+1)
		}
		checkWrong(t, text+"pin y out", n+1)
	}
}

// smallLibraries have short texts with lines of each kind.
func smallLibraries() []impl.Library {
	c := gate(nums(0, 1), arc(impl.ArcComb, 0, 1, impl.SensePos))
	f := flop(arc(impl.ArcFall, 1, 2, 0), arc(impl.ArcSetup, 1, 0, 0))
	f.Pins = []impl.Pin{in("d"), clock("c"), out("q")}
	f.Arcs[1].Delay[0] = flat(-7)
	return []impl.Library{library(c), library(f), library(named("a", gate(nums(1, 1))), named("b", gate(nums(0, 0, 0, 1))))}
}

// Every text that differs from that of a library in one byte is either that of another library or
// refused, with the number that follows from its lines.
func TestReadLibraryReadsOnlyWhatLibraryTextWrites(t *testing.T) {
	for _, l := range smallLibraries() {
		for _, near := range textsNear(textOfLibrary(l)) {
			checkRead(t, near)
		}
	}
}

// No other order of the lines of a text, none without one of them, and none with one of them twice
// is read as the same library.
func TestLinesInOtherPlaces(t *testing.T) {
	for _, l := range append(smallLibraries(), library(xor(), risingFlop()), library(wideTables(), named("m", plainLatch()))) {
		lines := linesOf(textOfLibrary(l))
		for i, line := range lines {
			without := slices.Delete(slices.Clone(lines), i, i+1)
			checkRead(t, textOfLines(without))
			for k := range lines {
				checkRead(t, textOfLines(slices.Insert(slices.Clone(without), k, line)))
				checkRead(t, textOfLines(slices.Insert(slices.Clone(lines), k, line)))
				checkRead(t, textOfLines(withLine(withLine(lines, i, lines[k]), k, line)))
			}
		}
	}
}
