package tests

import (
	"slices"
	"strconv"
	"strings"
	"testing"

	"loop.example/g00861/impl"
)

// Promise 2, as far as it is about designs: designs are recovered from their texts. And the errors
// of ReadDesign.

func TestDesignsAreRecovered(t *testing.T) {
	for _, c := range append(sampleDesigns(), smallDesigns()...) {
		text := impl.DesignText(c.l, c.d)
		if text == "" && len(c.d.Nets) > 0 {
			t.Errorf("%s: %+v has no text", c.name, c.d)
		}
		checkDesignAnswer(t, c.l, text, c.d, impl.ErrNone)
	}
	checkDesignAnswer(t, pinLibrary(), mixedText, mixedDesign(), impl.ErrNone)
	for _, name := range append(goodNames(), "net", "port", "inst", "wire", "in", "out", "inv", "cell") {
		for _, d := range withNames(name) {
			checkDesignAnswer(t, pinLibrary(), impl.DesignText(pinLibrary(), d), d, impl.ErrNone)
		}
	}
}

// Cells are found by their names, so that a text may be that of one design for one library and of
// another design, or of none, for another library.
func TestLibrariesOfTexts(t *testing.T) {
	text := textOfDesign(pinLibrary(), ring(3))
	for _, place := range []int{0, 1, 7} {
		l := numbered(impl.MaxCells)
		l.Cells[place] = named("inv", inverter())
		want := ring(3)
		for i := range want.Instances {
			want.Instances[i].Cell = int64(place)
		}
		checkDesignAnswer(t, l, text, want, impl.ErrNone)
	}
	checkNoDesign(t, impl.Library{}, text)
	checkNoDesign(t, numbered(impl.MaxCells), text)
	checkNoDesign(t, library(named("inv", and())), text)
	checkNoDesign(t, library(named("inv", risingFlop())), text)
}

func TestEmptyTextOfDesigns(t *testing.T) {
	for n := range impl.MaxCells + 1 {
		checkDesignAnswer(t, numbered(n), "", impl.Design{}, impl.ErrNone)
	}
	for _, text := range []string{"\n", " ", "\x00", "\t", "\r", "\r\n", "\n\n", " \n", "net", "net\n", "net \n", "net", "x\n"} {
		checkNoDesign(t, impl.Library{}, text)
		checkNoDesign(t, pinLibrary(), text)
	}
}

func TestErrorsOfReadDesign(t *testing.T) {
	const limit = 6000
	long := strings.Repeat("x", limit+1)
	for _, l := range invalidLibraries() {
		for _, text := range []string{"", "x", "net n0\nport i0 in n0\n", mixedText, long} {
			checkDesignAnswer(t, l, text, impl.Design{}, impl.ErrInvalid)
		}
	}
	for _, l := range []impl.Library{{}, pinLibrary()} {
		for _, text := range []string{long, mixedText + strings.Repeat("\n", limit+1-len(mixedText)), strings.Repeat(mixedText, 100), strings.Repeat("\n", 1<<20), strings.Repeat("ä", limit/2+1), strings.Repeat("\xff", limit+1)} {
			checkDesignAnswer(t, l, text, impl.Design{}, impl.ErrLimit)
		}
		nets := strings.Repeat("net na\n", limit/7+1)
		for _, text := range []string{long[1:], mixedText + strings.Repeat("\n", limit-len(mixedText)), strings.Repeat("ä", limit/2), strings.Repeat(" ", limit), strings.Repeat("\xff", limit), nets[:limit]} {
			checkNoDesign(t, l, text)
		}
	}
}

// blanksOf returns the places of the blanks of a line.
func blanksOf(line string) []int {
	var list []int
	for i := range len(line) {
		if line[i] == ' ' {
			list = append(list, i)
		}
	}
	return list
}

// spoiltLines are lines that become of a line of a design and that no text has in its place.
func spoiltLines(line string) []string {
	list := []string{"", " ", " " + line, line + " ", "\t" + line, line + "\t", line + "\r", "\r" + line, line + "\x00", strings.ToUpper(line), line + "\n", "\n" + line, line + "\n" + line}
	words := strings.Split(line, " ")
	for i, word := range words {
		list = append(list, strings.Join(slices.Delete(slices.Clone(words), i, i+1), " "))
		list = append(list, strings.Join(slices.Insert(slices.Clone(words), i, word), " "))
		list = append(list, strings.Join(withLine(words, i, word+word), " "), strings.Join(withLine(words, i, "none"), " "))
	}
	list = append(list, line+" na", line+" x", line+" in")
	for _, i := range blanksOf(line) {
		for _, blank := range []string{"", "  ", "   ", "\t", " \t", "\v", "\f", "\r", "\n", ",", "_", "\u00a0", "\u2003", "\x85", "\xa0"} {
			list = append(list, line[:i]+blank+line[i+1:])
		}
	}
	for _, kind := range []string{"", "x", "nets", "ne", "Net", "NET", "ports", "Port", "instance", "Inst", "wire", "cell", "pin", "in", "1", "nët", "net\x00", "\xffnet"} {
		list = append(list, strings.Join(withLine(words, 0, kind), " "))
	}
	// An instance or a port may have another name, as no other line names it.
	return slices.DeleteFunc(list, func(spoilt string) bool { return isRenamed(spoilt, line) })
}

// isRenamed reports whether a line is that of an instance or a port with another name that is right.
func isRenamed(spoilt, line string) bool {
	words, old := strings.Split(spoilt, " "), strings.Split(line, " ")
	if len(words) != len(old) || old[0] != "port" && old[0] != "inst" {
		return false
	}
	return strings.Join(withLine(words, 1, old[1]), " ") == line && len(words[1]) <= impl.MaxName && !strings.ContainsAny(words[1], "\t\n\r")
}

func TestSpoiltLines(t *testing.T) {
	lines := linesOf(mixedText)
	for i, line := range lines {
		for _, spoilt := range spoiltLines(line) {
			if spoilt != line {
				checkNoDesign(t, pinLibrary(), textOfLines(withLine(lines, i, spoilt)))
			}
		}
		for _, more := range []string{"", " ", "x", "net", "net na", "net n/", "port", "port p in", "inst", "inst u", "inst u9 inv na", "wire", "wire na 0", "#", "wire na -1|0|0|0,0,0"} {
			checkNoDesign(t, pinLibrary(), textOfLines(slices.Insert(slices.Clone(lines), i, more)))
		}
	}
	for _, end := range []string{"", "\r", " ", "\r\n", " \n", "\x00\n", "\n\n", "\n ", "\nnet", "\n\x00", "\nnet nx", "\nport p out na", "\ninst u9 inv na nb"} {
		checkNoDesign(t, pinLibrary(), strings.TrimSuffix(mixedText, "\n")+end)
	}
	checkNoDesign(t, pinLibrary(), "\ufeff"+mixedText)
	checkNoDesign(t, pinLibrary(), strings.ReplaceAll(mixedText, "\n", "\r\n"))
	checkNoDesign(t, pinLibrary(), strings.ReplaceAll(mixedText, "\n", ";"))
}

func TestWordsOfPorts(t *testing.T) {
	for _, direction := range []string{"", "inout", "IN", "Out", "i", "o", "clock", "1", "2", "ín", "input", "na", "in\x00"} {
		for _, old := range []string{"port o out nd\n", "port e in ne\n"} {
			words := strings.Split(old, " ")
			checkNoDesign(t, pinLibrary(), strings.Replace(mixedText, old, "port "+words[1]+" "+direction+" "+words[3], 1))
		}
	}
	// The other direction makes two drivers, or none.
	checkNoDesign(t, pinLibrary(), strings.Replace(mixedText, "port o out", "port o in", 1))
	checkNoDesign(t, pinLibrary(), strings.Replace(mixedText, "port e in", "port e out", 1))
	// An output port may be on any net, but not on none.
	checkReadDesign(t, pinLibrary(), strings.Replace(mixedText, "port o out nd", "port o out ng", 1))
	for _, net := range []string{"none", "", "0", "-1", "NA", "o", "u1", "inv", "nab"} {
		checkNoDesign(t, pinLibrary(), strings.Replace(mixedText, "port o out nd", "port o out "+net, 1))
		checkNoDesign(t, pinLibrary(), strings.Replace(mixedText, "inst u1 inv nb", "inst u1 inv "+net, 1))
	}
}

func TestWordsOfInstances(t *testing.T) {
	for _, cell := range []string{"none", "", "0", "INV", "inv1", "in", "u1", "nb", "flop", "and", "wide"} {
		checkNoDesign(t, pinLibrary(), strings.Replace(mixedText, "inst u1 inv", "inst u1 "+cell, 1))
	}
	// A cell with as many pins makes another design.
	same := mixedDesign()
	same.Instances[0].Cell = latchCell
	checkDesignAnswer(t, pinLibrary(), strings.Replace(mixedText, "ff flop", "ff latch", 1), same, impl.ErrNone)
	checkReadDesign(t, pinLibrary(), strings.Replace(mixedText, "u1 inv nb nc", "u1 inv nc nc", 1))
	checkNoDesign(t, pinLibrary(), strings.Replace(mixedText, "u1 inv nb nc", "u1 inv nc nb", 1))
	checkNoDesign(t, pinLibrary(), strings.Replace(mixedText, "u1 inv nb nc", "u1 inv", 1))
	checkNoDesign(t, pinLibrary(), strings.Replace(mixedText, "u1 inv nb nc", "u1", 1))
}

func TestWrongNamesInTexts(t *testing.T) {
	for _, name := range append(badNames(), "u1/y", "/", "net ", "\x00") {
		for _, d := range withNames(name) {
			checkNoDesign(t, pinLibrary(), textOfDesign(pinLibrary(), d))
		}
	}
	for _, name := range []string{"ff", "u1", "lat", "u3", "na", "nb", "ng", "o", "ck", "e"} {
		for _, d := range withNames(name) {
			checkReadDesign(t, pinLibrary(), textOfDesign(pinLibrary(), d))
			if !impl.IsDesign(pinLibrary(), d) {
				checkNoDesign(t, pinLibrary(), textOfDesign(pinLibrary(), d))
			}
		}
	}
}

// A line that comes twice has a name that is there twice, and no other order is read as the same
// design.
func TestOrderOfLines(t *testing.T) {
	lines := linesOf(mixedText)
	for i, line := range lines {
		without := slices.Delete(slices.Clone(lines), i, i+1)
		checkReadDesign(t, pinLibrary(), textOfLines(without))
		for k := range lines {
			checkNoDesign(t, pinLibrary(), textOfLines(slices.Insert(slices.Clone(lines), k, line)))
			checkReadDesign(t, pinLibrary(), textOfLines(slices.Insert(slices.Clone(without), k, line)))
			checkReadDesign(t, pinLibrary(), textOfLines(withLine(withLine(lines, i, lines[k]), k, line)))
		}
	}
	nets, ports, instances := textOfLines(lines[:7]), textOfLines(lines[7:12]), textOfLines(lines[12:])
	checkDesignAnswer(t, pinLibrary(), nets+ports+instances, mixedDesign(), impl.ErrNone)
	for _, text := range []string{nets + instances + ports, ports + nets + instances, ports + instances + nets, instances + nets + ports, instances + ports + nets, nets, ports, instances, nets + ports, nets + instances, ports + instances} {
		checkNoDesign(t, pinLibrary(), text)
	}
	slices.Reverse(lines)
	checkNoDesign(t, pinLibrary(), textOfLines(lines))
}

func TestDriversInTexts(t *testing.T) {
	for _, c := range driverCases() {
		d := impl.Design{Instances: c.instances, Nets: []string{"n0", "n1", "n2"}[:c.n], Ports: c.ports}
		if text := textOfDesign(pinLibrary(), d); c.valid {
			checkDesignAnswer(t, pinLibrary(), text, d, impl.ErrNone)
		} else {
			checkNoDesign(t, pinLibrary(), text)
		}
	}
}

func TestLimitsOfDesignsInTexts(t *testing.T) {
	for n := range 20 {
		checkReadDesign(t, pinLibrary(), textOfDesign(pinLibrary(), ring(n)))
	}
	checkDesignAnswer(t, pinLibrary(), textOfDesign(pinLibrary(), ring(14)), ring(14), impl.ErrNone)
	checkNoDesign(t, pinLibrary(), textOfDesign(pinLibrary(), ring(15)))
	checkNoDesign(t, pinLibrary(), textOfDesign(pinLibrary(), ring(100)))
	for _, count := range [][2]int{{8, 0}, {1, 7}, {4, 4}} {
		inputs, outputs := count[0], count[1]
		checkDesignAnswer(t, pinLibrary(), textOfDesign(pinLibrary(), ports(inputs, outputs)), ports(inputs, outputs), impl.ErrNone)
		checkNoDesign(t, pinLibrary(), textOfDesign(pinLibrary(), ports(inputs+1, outputs)))
		checkNoDesign(t, pinLibrary(), textOfDesign(pinLibrary(), ports(inputs, outputs+1)))
	}
	most := drawnDesign(14, 8, 0)
	checkDesignAnswer(t, pinLibrary(), textOfDesign(pinLibrary(), most), most, impl.ErrNone)
	for nets := 23; nets <= 32; nets++ {
		more := drawnDesign(14, 8, 0)
		for len(more.Nets) < nets {
			more.Nets = append(more.Nets, "y"+strconv.Itoa(len(more.Nets)))
		}
		checkNoDesign(t, pinLibrary(), textOfDesign(pinLibrary(), more))
	}
	checkNoDesign(t, pinLibrary(), textOfDesign(pinLibrary(), drawnDesign(23, 8, 0)))
}

// Every text that differs from that of a design in one byte is either that of another design or
// refused.
func TestReadDesignReadsOnlyWhatDesignTextWrites(t *testing.T) {
	for _, c := range smallDesigns() {
		for _, near := range textsNear(textOfDesign(c.l, c.d)) {
			checkReadDesign(t, c.l, near)
		}
	}
}

// No text with a byte that is not of ASCII is one of a design, whether it is UTF-8 or not.
func TestBytesOutsideOfASCII(t *testing.T) {
	for i := range len(mixedText) + 1 {
		for _, strange := range []string{"ä", "\u00a0", "\u2028", "\u0301", "\U0001f600", "\x80", "\xff", "\xc3", "\xe2\x80", "\xf0\x9f", "\xc0\xa0", "\xc0\x8a", "\xed\xa0\x80", "\ufffd"} {
			checkNoDesign(t, pinLibrary(), mixedText[:i]+strange+mixedText[i:])
			if i < len(mixedText) {
				checkNoDesign(t, pinLibrary(), mixedText[:i]+strange+mixedText[i+1:])
			}
		}
	}
}

// Of the beginnings and ends of a text only those that are texts are read.
func TestPartsOfDesigns(t *testing.T) {
	for i := range mixedText {
		checkReadDesign(t, pinLibrary(), mixedText[:i])
		checkReadDesign(t, pinLibrary(), mixedText[i:])
	}
	checkNoDesign(t, pinLibrary(), mixedText+mixedText)
}
