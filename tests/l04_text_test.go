package tests

import (
	"math"
	"math/big"
	"slices"
	"strings"
	"testing"

	"loop.example/g00861/impl"
)

// CellText, LibraryText, ArcText, CellDigest and SameLibrary.

func TestMaxLibraryText(t *testing.T) {
	checkNumbers(t, "limit", nums(impl.MaxLibraryText), 60000)
	if n := len(textOfLibrary(longestLibrary())); n > impl.MaxLibraryText {
		t.Errorf("the longest library has a text of %d bytes", n)
	}
}

// handWritten are cells with their texts.
func handWritten() map[string]impl.Cell {
	wide := plainLatch()
	wide.Name, wide.Leak, wide.Energy = "l0", 0, 100000
	wide.Pins[0].Cap, wide.Pins[2].Cap = 0, 500
	wide.Arcs[0].Delay[1] = table(nums(0, 10), nums(3, 4, 100000), 0, 1, 2, 3, 4, 1000000)
	hold := arc(impl.ArcHold, 2, 1, 0)
	hold.Delay[0] = table(nums(1), nums(2, 3), -1000000, -5)
	wide.Arcs = append(wide.Arcs, hold)
	return map[string]impl.Cell{
		"cell gate gate 3 5\npin i0 in 2\npin y out\narc comb i0 y neg 0|0|10 0|0|12 0|0|20 0|0|21\ntruth 10\n": inverter(),
		"cell gate gate 3 5\npin i0 in 2\npin i1 in 2\npin y out\n" +
			"arc comb i1 y both 0|0|10 0|0|12 0|0|20 0|0|21\narc comb i0 y both 0|0|10 0|0|12 0|0|20 0|0|21\ntruth 0110\n": xor(),
		"cell gate gate 3 5\npin i0 in 2\npin i1 in 2\npin i2 in 2\npin y out\ntruth 00010001\n": gate(nums(0, 0, 0, 1, 0, 0, 0, 1)),
		"cell gate gate 3 5\npin i0 in 2\npin i1 in 2\npin i2 in 2\npin i3 in 2\npin y out\ntruth 1000000000000001\n": gate(
			nums(1, 0, 0, 0, 0, 0, 0, 0, 0, 0, 0, 0, 0, 0, 0, 1)),
		"cell flop flop 1 2\npin d0 in 2\npin ck clock 1\npin d1 in 2\npin q out\narc hold ck d0 0|0|10 0|0|12\n" +
			"arc rise ck q 0|0|10 0|0|12 0|0|20 0|0|21\narc setup ck d0 0|0|10 0|0|12\narc setup ck d1 0|0|10 0|0|12\n": risingFlop(),
		"cell flop flop 1 2\npin d0 in 2\npin ck clock 1\npin d1 in 2\npin q out\narc fall ck q 0|0|10 0|0|12 0|0|20 0|0|21\n": fallingFlop(),
		"cell l0 latch 0 100000\npin d0 in 0\npin d1 in 2\npin g clock 500\npin q out\n" +
			"arc comb d0 q pos 0|0|10 0,10|3,4,100000|0,1,2,3,4,1000000 0|0|20 0|0|21\n" +
			"arc rise g q 0|0|10 0|0|12 0|0|20 0|0|21\narc hold g d1 1|2,3|-1000000,-5 0|0|12\n": wide,
	}
}

func TestHandWrittenTexts(t *testing.T) {
	for text, c := range handWritten() {
		if got := impl.CellText(c); got != text {
			t.Errorf("CellText is %q; want %q", got, text)
		}
		l := library(c)
		if got := impl.LibraryText(l); got != text {
			t.Errorf("LibraryText is %q; want %q", got, text)
		}
		checkAnswer(t, text, l, impl.ErrNone, 0)
		if got := textOfLibrary(l); got != text || firstWrong(text) != 0 {
			t.Errorf("the writer of the tests writes %q; want %q", got, text)
		}
		if read, ok := libraryOfText(text); !ok || !sameCells(read, l) {
			t.Errorf("the reader of the tests reads %q as %v, %v", text, read, ok)
		}
	}
}

func TestCellText(t *testing.T) {
	for _, c := range append(validCells(), gatesWithInputs()...) {
		if got, want := impl.CellText(c), textOfCell(c); got != want {
			t.Errorf("CellText(%v) = %q; want %q", c, got, want)
		}
	}
	for _, c := range invalidCells() {
		if got := impl.CellText(c); got != "" {
			t.Errorf("CellText(%v) = %q; want no text", c, got)
		}
	}
}

func TestLibraryText(t *testing.T) {
	for _, l := range sampleLibraries() {
		if got, want := impl.LibraryText(l), textOfLibrary(l); got != want {
			t.Errorf("LibraryText of %d cells is %.200q; want %.200q", len(l.Cells), got, want)
		}
	}
	for _, l := range invalidLibraries() {
		if got := impl.LibraryText(l); got != "" {
			t.Errorf("LibraryText of an invalid library is %.200q", got)
		}
	}
}

// invalidLibraries are libraries with an invalid cell, too many cells or two cells of one name.
func invalidLibraries() []impl.Library {
	list := []impl.Library{numbered(9), library(and(), xor()), library(and(), risingFlop(), named("flop", and()))}
	for _, c := range invalidCells() {
		list = append(list, library(c), library(named("first", and()), c), library(c, named("last", and())))
	}
	return list
}

func TestArcText(t *testing.T) {
	for _, c := range append(validCells(), gatesWithInputs()...) {
		lines := strings.Split(impl.CellText(c), "\n")
		for i, a := range c.Arcs {
			got := impl.ArcText(c, int64(i))
			if got != arcLine(c, a) || got != lines[1+len(c.Pins)+i] {
				t.Errorf("ArcText(%v, %d) = %q; want %q", c, i, got, arcLine(c, a))
			}
		}
		n := int64(len(c.Arcs))
		for _, i := range []int64{math.MinInt64, -1 << 32, -2, -1, n, n + 1, 1 << 32, math.MaxInt64} {
			if got := impl.ArcText(c, i); got != "" {
				t.Errorf("ArcText(%v, %d) = %q; want no text", c, i, got)
			}
		}
	}
	for _, c := range invalidCells() {
		for i := range int64(impl.MaxArcs + 2) {
			if got := impl.ArcText(c, i-1); got != "" {
				t.Errorf("ArcText(%v, %d) = %q; want no text", c, i-1, got)
			}
		}
	}
}

// digestOf computes the digest as the value of a polynomial, with one division at the end.
func digestOf(text string) int64 {
	sum := big.NewInt(0)
	for i := range len(text) {
		power := new(big.Int).Exp(big.NewInt(31), big.NewInt(int64(len(text)-1-i)), nil)
		sum.Add(sum, power.Mul(power, big.NewInt(int64(text[i]))))
	}
	return sum.Mod(sum, big.NewInt(1000000007)).Int64()
}

func TestCellDigest(t *testing.T) {
	c := named("a", gate(nums(0, 1)))
	c.Leak, c.Energy, c.Pins[0].Cap, c.Pins[0].Name = 0, 0, 0, "b"
	if text := impl.CellText(c); text != "cell a gate 0 0\npin b in 0\npin y out\ntruth 01\n" {
		t.Fatalf("CellText is %q", text)
	}
	// Computed outside the program, byte by byte: 99, 99*31+101 = 3170, 3170*31+108 = 98378, and so on.
	if got := impl.CellDigest(c); got != 689100521 {
		t.Errorf("CellDigest = %d; want 689100521", got)
	}
	for _, c := range append(validCells(), longestCell("longest")) {
		if got, want := impl.CellDigest(c), digestOf(textOfCell(c)); got != want {
			t.Errorf("CellDigest(%v) = %d; want %d", c, got, want)
		}
	}
	for _, c := range invalidCells() {
		if got := impl.CellDigest(c); got != -1 {
			t.Errorf("CellDigest(%v) = %d; want -1", c, got)
		}
	}
}

// fieldChanges are changes of one field of plainLatch, after which it is still valid.
func fieldChanges() []change {
	return []change{
		{"name", true, func(c *impl.Cell) { c.Name = "latcg" }},
		{"leak", true, func(c *impl.Cell) { c.Leak++ }},
		{"energy", true, func(c *impl.Cell) { c.Energy-- }},
		{"name of a pin", true, func(c *impl.Cell) { c.Pins[1].Name = "d2" }},
		{"name of the clock pin", true, func(c *impl.Cell) { c.Pins[2].Name = "h" }},
		{"name of the output", true, func(c *impl.Cell) { c.Pins[3].Name = "r" }},
		{"capacitance of a pin", true, func(c *impl.Cell) { c.Pins[0].Cap++ }},
		{"capacitance of the clock pin", true, func(c *impl.Cell) { c.Pins[2].Cap = 0 }},
		{"from", true, func(c *impl.Cell) { c.Arcs[0].From = 1 }},
		{"sense", true, func(c *impl.Cell) { c.Arcs[0].Sense = impl.SenseBoth }},
		{"first delay", true, func(c *impl.Cell) { c.Arcs[0].Delay[0].Values[0]++ }},
		{"last delay", true, func(c *impl.Cell) { c.Arcs[1].Delay[1].Slews[0]++ }},
		{"first slew", true, func(c *impl.Cell) { c.Arcs[1].Slew[0].Loads[0]++ }},
		{"last slew", true, func(c *impl.Cell) { c.Arcs[0].Slew[1].Values[0]++ }},
		{"one more arc", true, func(c *impl.Cell) { c.Arcs = append(c.Arcs, arc(impl.ArcSetup, 2, 0, 0)) }},
		{"order of arcs", true, func(c *impl.Cell) { slices.Reverse(c.Arcs) }},
	}
}

func checkSame(t *testing.T, name string, a, b impl.Library, want bool) {
	t.Helper()
	if impl.SameLibrary(a, b) != want || impl.SameLibrary(b, a) != want {
		t.Errorf("%s: SameLibrary is not %v", name, want)
	}
}

func TestSameLibrary(t *testing.T) {
	for _, l := range sampleLibraries() {
		var twin impl.Library
		for _, c := range l.Cells {
			twin.Cells = append(twin.Cells, cloneCell(c))
		}
		checkSame(t, "a copy", l, twin, true)
		checkSame(t, "a library and nothing", l, impl.Library{}, len(l.Cells) == 0)
		checkSame(t, "one cell more", l, library(append(slices.Clone(l.Cells), named("more", and()))...), false)
		if len(l.Cells) > 1 {
			slices.Reverse(twin.Cells)
			checkSame(t, "another order", l, twin, false)
		}
	}
	checkSame(t, "nil and empty", impl.Library{}, impl.Library{Cells: []impl.Cell{}}, true)
	empty := risingFlop()
	empty.Truth = []int64{}
	checkSame(t, "nil and empty truth", library(risingFlop()), library(empty), true)
}

func TestSameLibraryComparesEveryField(t *testing.T) {
	checkChanges(t, plainLatch, fieldChanges())
	for _, ch := range fieldChanges() {
		c := plainLatch()
		ch.of(&c)
		checkSame(t, ch.name, library(plainLatch()), library(c), false)
		checkSame(t, ch.name, library(and(), named("m", plainLatch())), library(and(), named("m", c)), ch.name == "name")
	}
	checkSame(t, "truth", library(gate(nums(0, 1, 1, 1))), library(gate(nums(0, 1, 1, 0))), false)
	checkSame(t, "kind of an arc", library(flop(arc(impl.ArcRise, 1, 3, 0))), library(fallingFlop()), false)
	setup := flop(arc(impl.ArcRise, 1, 3, 0), arc(impl.ArcSetup, 1, 0, 0))
	hold := flop(arc(impl.ArcRise, 1, 3, 0), arc(impl.ArcHold, 1, 0, 0))
	checkSame(t, "kind of a check", library(setup), library(hold), false)
	other := flop(arc(impl.ArcRise, 1, 3, 0), arc(impl.ArcSetup, 1, 2, 0))
	checkSame(t, "to", library(setup), library(other), false)
}

// All invalid libraries have the text of the library without cells, but they are the same as none.
func TestSameLibraryOfInvalidLibraries(t *testing.T) {
	for _, bad := range invalidLibraries() {
		checkSame(t, "invalid ones", bad, bad, false)
		checkSame(t, "an invalid one and nothing", bad, impl.Library{}, false)
		checkSame(t, "an invalid one and a valid one", bad, library(and()), false)
	}
}
