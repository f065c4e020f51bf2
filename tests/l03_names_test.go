package tests

import (
	"strings"
	"testing"

	"loop.example/g00861/impl"
)

func goodNames() []string {
	return []string{"a", "z", "y0", "z9", "inv", "a1b2c3d4", "abcdefgh", "zzzzzzzz", "a0000000", strings.Repeat("q", impl.MaxName)}
}

func badNames() []string {
	list := []string{
		"", "abcdefghi", strings.Repeat("q", impl.MaxName+1), strings.Repeat("q", 1000),
		"0", "9", "0a", "9abc", "12345678", "A", "Z", "aB", "Ab", "INV", " ", " a", "a ", "a b", "a\n", "\na", "a\x00", "\x00",
		"a_b", "_", "-", "a-", "a.b", "ä", "aä", "a\xff", "\xff", "a\u0301",
	}
	// The bytes just outside a..z and 0..9.
	for _, outside := range []string{"`", "{", "/", ":", "@", "["} {
		list = append(list, outside, "a"+outside, outside+"a", "a"+outside+"b", "abcdefg"+outside)
	}
	return list
}

// namedCells returns a cell with a name and cells with a pin of this name, in every place.
func namedCells(name string) []impl.Cell {
	list := []impl.Cell{and()}
	list[0].Name = name
	for _, fresh := range []func() impl.Cell{and, risingFlop, plainLatch} {
		for pin := range fresh().Pins {
			c := fresh()
			c.Pins[pin].Name = name
			list = append(list, c)
		}
	}
	return list
}

func TestCellsHaveNames(t *testing.T) {
	for _, name := range goodNames() {
		for _, c := range namedCells(name) {
			if !impl.IsCell(c) {
				t.Errorf("the name %q is not accepted: %v", name, c)
			}
		}
	}
	for _, name := range badNames() {
		for _, c := range namedCells(name) {
			if impl.IsCell(c) {
				t.Errorf("the name %q is accepted: %v", name, c)
			}
		}
	}
}

// Of all single bytes only the letters are names, and of all second bytes only letters and digits
// make one.
func TestNamesOfOneAndTwoBytes(t *testing.T) {
	const letters, digits = "abcdefghijklmnopqrstuvwxyz", "0123456789"
	for b := range 256 {
		last := string([]byte{byte(b)})
		first := inverter()
		first.Name = last
		if impl.IsCell(first) != strings.Contains(letters, last) {
			t.Errorf("the name %q: IsCell is wrong", first.Name)
		}
		second := inverter()
		second.Name = "k" + last
		if impl.IsCell(second) != strings.Contains(letters+digits, last) {
			t.Errorf("the name %q: IsCell is wrong", second.Name)
		}
	}
}

// A cell, one of its pins and another cell's pin may have the same name.
func TestNamesOfCellsAndPinsAreApart(t *testing.T) {
	c := and()
	c.Name = "y"
	if !impl.IsCell(c) || !impl.IsLibrary(impl.Library{Cells: []impl.Cell{c, inverter()}}) {
		t.Error("a cell with the name of a pin is not accepted")
	}
}
