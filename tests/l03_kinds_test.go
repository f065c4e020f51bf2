package tests

import (
	"math"
	"testing"

	"loop.example/g00861/impl"
)

func TestLibraryConstants(t *testing.T) {
	limits := nums(impl.MaxCells, impl.MaxPins, impl.MaxArcs, impl.MaxName, impl.MaxPinCap, impl.MaxPowerValue)
	checkNumbers(t, "limits", limits, 8, 5, 8, 8, 500, 100000)
	checkNumbers(t, "pins and transitions", nums(impl.PinIn, impl.PinOut, impl.Rise, impl.Fall), 1, 2, 0, 1)
	arcs := nums(impl.ArcComb, impl.ArcRise, impl.ArcFall, impl.ArcSetup, impl.ArcHold)
	checkNumbers(t, "kinds of arcs", arcs, 1, 2, 3, 4, 5)
	checkNumbers(t, "senses", nums(impl.SensePos, impl.SenseNeg, impl.SenseBoth), 1, 2, 3)
	checkNumbers(t, "kinds of cells", nums(impl.CellGate, impl.CellFlop, impl.CellLatch), 1, 2, 3)
}

func TestValidCells(t *testing.T) {
	for _, c := range validCells() {
		if !impl.IsCell(c) {
			t.Errorf("%v is not accepted", c)
		}
	}
	for _, c := range invalidCells() {
		if impl.IsCell(c) {
			t.Errorf("%v is accepted", c)
		}
	}
}

// A cell of one kind is none of another kind.
func TestKindsOfCells(t *testing.T) {
	for _, c := range validCells() {
		own := c.Kind
		for _, kind := range []int64{math.MinInt64, -1, 0, 1, 2, 3, 4, 1<<32 + own, math.MaxInt64} {
			if c.Kind = kind; impl.IsCell(c) != (kind == own) {
				t.Errorf("%s as a cell of the kind %d: IsCell is not %v", c.Name, kind, kind == own)
			}
		}
	}
}

func TestGates(t *testing.T) {
	checkChanges(t, and, []change{
		{"no arcs", true, func(c *impl.Cell) { c.Arcs = nil }},
		{"an arc from one input", true, func(c *impl.Cell) { c.Arcs = c.Arcs[1:] }},
		{"a rise", false, func(c *impl.Cell) { c.Arcs = append(c.Arcs, arc(impl.ArcRise, 0, 2, 0)) }},
		{"a fall", false, func(c *impl.Cell) { c.Arcs = append(c.Arcs, arc(impl.ArcFall, 0, 2, 0)) }},
		{"a setup", false, func(c *impl.Cell) { c.Arcs = append(c.Arcs, arc(impl.ArcSetup, 0, 1, 0)) }},
		{"a hold", false, func(c *impl.Cell) { c.Arcs = append(c.Arcs, arc(impl.ArcHold, 0, 1, 0)) }},
		{"a clock pin", false, func(c *impl.Cell) { c.Pins[1].Clock, c.Arcs = true, c.Arcs[:1] }},
		{"a clock pin with a rise", false, func(c *impl.Cell) {
			c.Pins[1].Clock, c.Arcs[1] = true, arc(impl.ArcRise, 1, 2, 0)
		}},
		{"a clock pin with a setup", false, func(c *impl.Cell) {
			c.Pins[1].Clock, c.Arcs[1] = true, arc(impl.ArcSetup, 1, 0, 0)
		}},
		{"a wrong sense", true, func(c *impl.Cell) { c.Arcs[0].Sense = impl.SenseNeg }},
	})
}

// For each number of inputs just one number of elements 0 and 1 is right.
func TestTruthOfGates(t *testing.T) {
	for inputs := 1; inputs <= 4; inputs++ {
		for rows := range 40 {
			c := gate(make([]int64, 1<<inputs))
			c.Truth = make([]int64, rows)
			for i := range c.Truth {
				c.Truth[i] = int64(i & 1)
			}
			if want := rows == 1<<inputs; impl.IsCell(c) != want {
				t.Errorf("%d inputs, %d rows: IsCell is not %v", inputs, rows, want)
			}
		}
		for row := range 1 << inputs {
			for _, v := range []int64{math.MinInt64, -1, 0, 1, 2, 3, 1 << 32, math.MaxInt64} {
				c := gate(make([]int64, 1<<inputs))
				c.Truth[row] = v
				if want := v == 0 || v == 1; impl.IsCell(c) != want {
					t.Errorf("%d inputs, %d in the row %d: IsCell is not %v", inputs, v, row, want)
				}
			}
		}
	}
}

func TestFlops(t *testing.T) {
	checkChanges(t, risingFlop, []change{
		{"a rise alone", true, func(c *impl.Cell) { c.Arcs = c.Arcs[1:2] }},
		{"no rise", false, func(c *impl.Cell) { c.Arcs[1] = arc(impl.ArcHold, 1, 2, 0) }},
		{"a fall instead of a rise", true, func(c *impl.Cell) { c.Arcs[1].Kind = impl.ArcFall }},
		{"a rise and a fall", false, func(c *impl.Cell) { c.Arcs = append(c.Arcs, arc(impl.ArcFall, 1, 3, 0)) }},
		{"a comb", false, func(c *impl.Cell) { c.Arcs = append(c.Arcs, arc(impl.ArcComb, 0, 3, impl.SensePos)) }},
		{"no arcs", false, func(c *impl.Cell) { c.Arcs = nil }},
		{"no clock pin", false, func(c *impl.Cell) { c.Pins[1].Clock = false }},
		{"a second clock pin", false, func(c *impl.Cell) { c.Pins[2].Clock, c.Arcs = true, c.Arcs[:3] }},
		{"an empty truth table", true, func(c *impl.Cell) { c.Truth = []int64{} }},
		{"a row", false, func(c *impl.Cell) { c.Truth = nums(0) }},
		{"a truth table", false, func(c *impl.Cell) { c.Truth = make([]int64, 8) }},
	})
	checkChanges(t, fallingFlop, []change{
		{"a fall and a rise", false, func(c *impl.Cell) { c.Arcs = append(c.Arcs, arc(impl.ArcRise, 1, 3, 0)) }},
		{"a fall and checks", true, func(c *impl.Cell) {
			c.Arcs = append(c.Arcs, arc(impl.ArcSetup, 1, 0, 0), arc(impl.ArcHold, 1, 0, 0))
		}},
	})
}

func TestLatches(t *testing.T) {
	checkChanges(t, plainLatch, []change{
		{"checks", true, func(c *impl.Cell) {
			c.Arcs = append(c.Arcs, arc(impl.ArcSetup, 2, 0, 0), arc(impl.ArcHold, 2, 1, 0))
		}},
		{"no comb", false, func(c *impl.Cell) { c.Arcs = c.Arcs[1:] }},
		{"no rise", false, func(c *impl.Cell) { c.Arcs = c.Arcs[:1] }},
		{"no arcs", false, func(c *impl.Cell) { c.Arcs = nil }},
		{"a fall", false, func(c *impl.Cell) { c.Arcs = append(c.Arcs, arc(impl.ArcFall, 2, 3, 0)) }},
		{"a fall instead of a rise", false, func(c *impl.Cell) { c.Arcs[1].Kind = impl.ArcFall }},
		{"a second comb", true, func(c *impl.Cell) { c.Arcs = append(c.Arcs, arc(impl.ArcComb, 1, 3, impl.SenseNeg)) }},
		{"no clock pin", false, func(c *impl.Cell) { c.Pins[2].Clock = false }},
		{"a second clock pin", false, func(c *impl.Cell) { c.Pins[1].Clock = true }},
		{"an empty truth table", true, func(c *impl.Cell) { c.Truth = []int64{} }},
		{"a row", false, func(c *impl.Cell) { c.Truth = nums(1) }},
		{"a truth table", false, func(c *impl.Cell) { c.Truth = make([]int64, 8) }},
	})
}

func TestPowerValues(t *testing.T) {
	for _, fresh := range []func() impl.Cell{and, risingFlop, plainLatch} {
		for _, v := range []int64{math.MinInt64, -1, 0, 1, 99999, impl.MaxPowerValue, impl.MaxPowerValue + 1, math.MaxInt64} {
			want := v >= 0 && v <= 100000
			checkChanges(t, fresh, []change{
				{"the leak", want, func(c *impl.Cell) { c.Leak = v }},
				{"the energy", want, func(c *impl.Cell) { c.Energy = v }},
			})
		}
	}
}
