package tests

import (
	"maps"
	"strings"
	"testing"

	"loop.example/g00861/impl"
)

// Texts whose lines are right by themselves, but that are the text of no valid library.

// The lines of which the texts of valid and of invalid libraries are made.
const (
	gateLine   = "cell g gate 3 5\n"
	gatePins   = "pin a in 2\npin b in 2\npin y out\n"
	gateArc    = "arc comb a y pos 0|0|1 0|0|2 0|0|3 0|0|4\n"
	gateTruth  = "truth 0001\n"
	wholeGate  = gateLine + gatePins + gateArc + gateTruth
	flopLine   = "cell f flop 1 2\n"
	flopPins   = "pin d in 2\npin ck clock 1\npin q out\n"
	launchArc  = "arc rise ck q 0|0|1 0|0|2 0|0|3 0|0|4\n"
	setupArc   = "arc setup ck d 0|0|-5 0|0|6\n"
	wholeFlop  = flopLine + flopPins + launchArc + setupArc
	latchLine  = "cell l latch 1 2\n"
	dataArc    = "arc comb d q pos 0|0|1 0|0|2 0|0|3 0|0|4\n"
	wholeLatch = latchLine + flopPins + dataArc + launchArc + setupArc
)

// misplacedLines are texts with a line too little, too much or in a wrong place.
func misplacedLines() map[string]string {
	return map[string]string{
		"a pin ahead of the first cell":   "pin a in 2\n" + wholeGate,
		"an arc ahead of the first cell":  gateArc + wholeGate,
		"a check ahead of the first cell": setupArc + wholeFlop,
		"a truth line ahead of the first": gateTruth + wholeGate,
		"pins without a cell":             gatePins,
		"a truth line alone":              gateTruth,
		"an arc alone":                    gateArc,
		"a cell without pins":             gateLine,
		"a cell without pins ahead":       gateLine + wholeFlop,
		"a cell without pins behind":      wholeGate + "cell h gate 3 5\n",
		"a pin behind an arc":             gateLine + "pin a in 2\npin y out\n" + "arc comb a y pos 0|0|1 0|0|2 0|0|3 0|0|4\npin b in 2\ntruth 0001\n",
		"the output behind an arc":        gateLine + "pin a in 2\npin b in 2\n" + gateArc + "pin y out\n" + gateTruth,
		"a pin behind the truth line":     gateLine + "pin a in 2\npin b in 2\n" + gateArc + gateTruth + "pin y out\n",
		"an arc ahead of the pins":        gateLine + gateArc + gatePins + gateTruth,
		"an arc behind the truth line":    gateLine + gatePins + gateTruth + gateArc,
		"a truth line ahead of the pins":  gateLine + gateTruth + gatePins + gateArc,
		"two truth lines":                 wholeGate + gateTruth,
		"two other truth lines":           gateLine + gatePins + gateArc + "truth 1110\n" + gateTruth,
		"a gate without truth line":       gateLine + gatePins + gateArc,
		"a gate without truth line ahead": gateLine + gatePins + gateArc + wholeFlop,
		"a short truth line":              gateLine + gatePins + gateArc + "truth 01\n",
		"a long truth line":               gateLine + gatePins + gateArc + "truth 00010001\n",
		"a flop with a truth line":        wholeFlop + "truth 0001\n",
		"a latch with a truth line":       wholeLatch + "truth 0001\n",
		"a flop with a truth line ahead":  flopLine + gateTruth + flopPins + launchArc,
	}
}

// wrongPinsAndArcs are texts with pins or arcs that their cells must not have.
func wrongPinsAndArcs() map[string]string {
	return map[string]string{
		"pins of one name":                gateLine + "pin a in 2\npin a in 2\npin y out\n" + gateArc + gateTruth,
		"an input with the output's name": gateLine + "pin a in 2\npin y in 2\npin y out\n" + gateTruth,
		"one pin":                         gateLine + "pin y out\n" + "truth 01\n",
		"no output":                       gateLine + "pin a in 2\npin b in 2\n" + gateTruth,
		"two outputs":                     gateLine + "pin a in 2\npin x out\npin y out\n" + gateTruth,
		"the output is not the last pin":  gateLine + "pin y out\npin a in 2\npin b in 2\n" + gateArc + gateTruth,
		"an arc from no pin":              gateLine + gatePins + "arc comb c y pos 0|0|1 0|0|2 0|0|3 0|0|4\n" + gateTruth,
		"an arc to no pin":                gateLine + gatePins + "arc comb a z pos 0|0|1 0|0|2 0|0|3 0|0|4\n" + gateTruth,
		"an arc to its own pin":           gateLine + gatePins + "arc comb a a pos 0|0|1 0|0|2 0|0|3 0|0|4\n" + gateTruth,
		"an arc from the output":          gateLine + gatePins + "arc comb y y pos 0|0|1 0|0|2 0|0|3 0|0|4\n" + gateTruth,
		"an arc to a pin of another cell": wholeFlop + gateLine + gatePins + "arc comb a q pos 0|0|1 0|0|2 0|0|3 0|0|4\n" + gateTruth,
		"an arc to a pin of a later cell": gateLine + gatePins + "arc comb a q pos 0|0|1 0|0|2 0|0|3 0|0|4\n" + gateTruth + wholeFlop,
		"one arc twice":                   gateLine + gatePins + gateArc + gateArc + gateTruth,
		"one arc with two senses":         gateLine + gatePins + gateArc + strings.Replace(gateArc, "pos", "neg", 1) + gateTruth,
		"a gate with a clock pin":         gateLine + "pin a clock 2\npin b in 2\npin y out\n" + gateTruth,
		"a gate with a rise":              gateLine + gatePins + strings.Replace(launchArc, "ck q", "a y", 1) + gateTruth,
		"a flop without clock pin":        flopLine + "pin d in 2\npin ck in 1\npin q out\n" + launchArc,
		"a flop with two clock pins":      flopLine + "pin d clock 2\npin ck clock 1\npin q out\n" + launchArc,
		"a flop without launching arc":    flopLine + flopPins + setupArc,
		"a flop with both launching arcs": wholeFlop + strings.Replace(launchArc, "rise", "fall", 1),
		"a flop with a comb":              wholeFlop + dataArc,
		"a latch without comb":            latchLine + flopPins + launchArc,
		"a latch without rise":            latchLine + flopPins + dataArc,
		"a check to the output":           flopLine + flopPins + launchArc + "arc setup ck q 0|0|5 0|0|6\n",
		"a check to the clock pin":        flopLine + flopPins + launchArc + "arc hold ck ck 0|0|5 0|0|6\n",
		"a check from an input":           flopLine + flopPins + launchArc + "arc hold d d 0|0|5 0|0|6\n",
	}
}

// brokenLimits are texts with two cells of one name, with too many cells, pins or arcs, or with
// values that are too small.
func brokenLimits() map[string]string {
	manyCells, manyPins, manyArcs := "", "", ""
	for i := range impl.MaxCells + 1 {
		manyCells += strings.Replace(wholeGate, "cell g", "cell g"+string(rune('a'+i)), 1)
	}
	for i := range impl.MaxPins - 2 {
		manyPins += "pin p" + string(rune('a'+i)) + " in 1\n"
	}
	for _, to := range []string{"a", "b", "c"} {
		manyArcs += "arc setup ck " + to + " 0|0|1 0|0|2\narc hold ck " + to + " 0|0|1 0|0|2\narc comb " + to + " q pos 0|0|1 0|0|2 0|0|3 0|0|4\n"
	}
	return map[string]string{
		"cells of one name":                wholeGate + wholeGate,
		"cells of one name and other kind": wholeGate + strings.Replace(wholeFlop, "cell f", "cell g", 1),
		"cells of one name apart":          wholeGate + wholeFlop + wholeGate,
		"too many cells":                   manyCells,
		"too many pins":                    flopLine + manyPins + flopPins + launchArc,
		"too many arcs":                    latchLine + "pin ck clock 1\npin a in 1\npin b in 1\npin c in 1\npin q out\n" + manyArcs + launchArc,
		"a negative delay":                 strings.Replace(wholeGate, "0|0|1 ", "0|0|-1 ", 1),
		"a negative second delay":          strings.Replace(wholeGate, "0|0|2", "0,1|0|0,-1000000", 1),
		"a negative slew":                  strings.Replace(wholeGate, "0|0|3", "0|0|-3", 1),
		"a negative second slew":           strings.Replace(wholeGate, "0|0|4", "0|0,1|-4,4", 1),
		"a negative delay of a rise":       strings.Replace(wholeFlop, "0|0|1 ", "0|0|-1 ", 1),
		"a negative slew of a rise":        strings.Replace(wholeFlop, "0|0|4", "0|0|-4", 1),
		"a negative delay of a fall":       flopLine + flopPins + "arc fall ck q 0|0|1 0|0|-2 0|0|3 0|0|4\n",
		"a negative delay of a latch":      strings.Replace(wholeLatch, "0|0|2", "0|0|-2", 1),
	}
}

func textsOfNoLibrary() map[string]string {
	list := misplacedLines()
	maps.Copy(list, wrongPinsAndArcs())
	maps.Copy(list, brokenLimits())
	return list
}

func TestTextsOfNoLibrary(t *testing.T) {
	for name, text := range textsOfNoLibrary() {
		if firstWrong(text) != 0 {
			t.Errorf("%s: a line is wrong by itself", name)
		}
		if l, code, line := impl.ReadLibrary(text); code != impl.ErrSyntax || line != 0 || !sameCells(l, impl.Library{}) {
			t.Errorf("%s: %d cells, %d, %d; want ErrSyntax and 0", name, len(l.Cells), code, line)
		}
	}
}

// Texts of the same parts, but without the mistakes, are read.
func TestTextsWithoutTheMistakes(t *testing.T) {
	few := "pin ck clock 1\npin a in 1\npin b in 1\npin c in 1\npin q out\narc comb a q pos 0|0|1 0|0|2 0|0|3 0|0|4\n" + launchArc
	for _, to := range []string{"a", "b", "c"} {
		few += "arc setup ck " + to + " 0|0|1 0|0|2\narc hold ck " + to + " 0|0|1 0|0|2\n"
	}
	cells := ""
	for i := range impl.MaxCells {
		cells += strings.Replace(wholeGate, "cell g", "cell g"+string(rune('a'+i)), 1)
	}
	for _, text := range []string{
		wholeGate, wholeFlop, wholeLatch, wholeGate + wholeFlop + wholeLatch, wholeLatch + wholeFlop + wholeGate, latchLine + few, cells,
		flopLine + "pin pa in 1\npin pb in 1\n" + flopPins + launchArc, gateLine + gatePins + gateTruth, flopLine + flopPins + launchArc, strings.Replace(wholeFlop, "rise", "fall", 1),
		strings.Replace(wholeGate, "cell g", "cell y", 1), strings.Replace(wholeLatch, "0|0|6", "0|0|-1000000", 1),
		gateLine + "pin a in 2\npin b in 2\npin c in 2\npin d in 2\npin y out\ntruth 0000000000000001\n",
	} {
		l, code, line := impl.ReadLibrary(text)
		if code != impl.ErrNone || line != 0 || impl.LibraryText(l) != text {
			t.Errorf("ReadLibrary(%q) = %d cells, %d, %d", text, len(l.Cells), code, line)
		}
	}
}
