package tests

import (
	"fmt"
	"math"
	"slices"
	"strconv"
	"testing"

	"loop.example/g00861/impl"
)

// The cells that the tests of layer 3 use, and how the tests change them.

func flat(v int64) impl.Table {
	return table(nums(0), nums(0), v)
}

// arc returns an arc with the tables that its kind has.
func arc(kind, from, to, sense int64) impl.Arc {
	a := impl.Arc{Kind: kind, From: from, To: to, Sense: sense, Delay: []impl.Table{flat(10), flat(12)}}
	if kind != impl.ArcSetup && kind != impl.ArcHold {
		a.Slew = []impl.Table{flat(20), flat(21)}
	}
	return a
}

func in(name string) impl.Pin {
	return impl.Pin{Name: name, Dir: impl.PinIn, Cap: 2}
}

func clock(name string) impl.Pin {
	return impl.Pin{Name: name, Dir: impl.PinIn, Cap: 1, Clock: true}
}

func out(name string) impl.Pin {
	return impl.Pin{Name: name, Dir: impl.PinOut}
}

// gate returns a gate with a truth table and arcs. It has as many inputs as the truth table needs.
func gate(truth []int64, arcs ...impl.Arc) impl.Cell {
	c := impl.Cell{Name: "gate", Kind: impl.CellGate, Arcs: arcs, Truth: truth, Leak: 3, Energy: 5}
	for rows := len(truth); rows > 1; rows /= 2 {
		c.Pins = append(c.Pins, in("i"+strconv.Itoa(len(c.Pins))))
	}
	c.Pins = append(c.Pins, out("y"))
	return c
}

func inverter() impl.Cell {
	return gate(nums(1, 0), arc(impl.ArcComb, 0, 1, impl.SenseNeg))
}

func and() impl.Cell {
	return gate(nums(0, 0, 0, 1), arc(impl.ArcComb, 0, 2, impl.SensePos), arc(impl.ArcComb, 1, 2, impl.SensePos))
}

func xor() impl.Cell {
	return gate(nums(0, 1, 1, 0), arc(impl.ArcComb, 1, 2, impl.SenseBoth), arc(impl.ArcComb, 0, 2, impl.SenseBoth))
}

// flop returns a flop with the pins d0, ck, d1, q and these arcs.
func flop(arcs ...impl.Arc) impl.Cell {
	pins := []impl.Pin{in("d0"), clock("ck"), in("d1"), out("q")}
	return impl.Cell{Name: "flop", Kind: impl.CellFlop, Pins: pins, Arcs: arcs, Leak: 1, Energy: 2}
}

func risingFlop() impl.Cell {
	return flop(arc(impl.ArcHold, 1, 0, 0), arc(impl.ArcRise, 1, 3, 0), arc(impl.ArcSetup, 1, 0, 0), arc(impl.ArcSetup, 1, 2, 0))
}

func fallingFlop() impl.Cell {
	return flop(arc(impl.ArcFall, 1, 3, 0))
}

// latch returns a latch with the pins d0, d1, g, q and these arcs.
func latch(arcs ...impl.Arc) impl.Cell {
	pins := []impl.Pin{in("d0"), in("d1"), clock("g"), out("q")}
	return impl.Cell{Name: "latch", Kind: impl.CellLatch, Pins: pins, Arcs: arcs, Leak: 4, Energy: 6}
}

func plainLatch() impl.Cell {
	return latch(arc(impl.ArcComb, 0, 3, impl.SensePos), arc(impl.ArcRise, 2, 3, 0))
}

// fullLatch returns a latch with MaxPins pins and the first n of all the arcs that it may have.
func fullLatch(n int) impl.Cell {
	arcs := []impl.Arc{arc(impl.ArcComb, 1, 4, impl.SensePos), arc(impl.ArcRise, 0, 4, 0)}
	for to := int64(1); to <= 3; to++ {
		arcs = append(arcs, arc(impl.ArcSetup, 0, to, 0), arc(impl.ArcHold, 0, to, 0))
	}
	arcs = append(arcs, arc(impl.ArcComb, 3, 4, impl.SenseNeg), arc(impl.ArcComb, 2, 4, impl.SenseBoth))
	pins := []impl.Pin{clock("g"), in("a"), in("b"), in("c"), out("q")}
	return impl.Cell{Name: "full", Kind: impl.CellLatch, Pins: pins, Arcs: arcs[:n]}
}

// wideTables returns a latch whose tables have several values, with negative ones in a check.
func wideTables() impl.Cell {
	c := plainLatch()
	times := table(nums(0, 5), nums(1, 2, 3), 0, 1, 2, 3, 4, mostValue)
	checks := table(nums(0, 5), nums(1, 2, 3), 0, -1, 2, -mostValue, 4, mostValue)
	for i := range c.Arcs {
		c.Arcs[i].Delay, c.Arcs[i].Slew = []impl.Table{times, flat(0)}, []impl.Table{flat(mostValue), times}
	}
	setup, hold := arc(impl.ArcSetup, 2, 1, 0), arc(impl.ArcHold, 2, 0, 0)
	setup.Delay, hold.Delay = []impl.Table{checks, flat(-1)}, []impl.Table{flat(-mostValue), checks}
	c.Arcs = append(c.Arcs, setup, hold)
	return c
}

func validCells() []impl.Cell {
	return []impl.Cell{
		inverter(), and(), xor(), gate(nums(0, 0)), gate(nums(1, 1, 1, 1)), gate(make([]int64, 8)), gate(make([]int64, 16)),
		risingFlop(), fallingFlop(), plainLatch(), fullLatch(2), fullLatch(impl.MaxArcs), wideTables(),
	}
}

// change is a change of a valid cell and says whether it stays valid.
type change struct {
	name  string
	valid bool
	of    func(c *impl.Cell)
}

// checkChanges makes each of the changes in a new cell.
func checkChanges(t *testing.T, fresh func() impl.Cell, changes []change) {
	t.Helper()
	if !impl.IsCell(fresh()) {
		t.Errorf("%v is not accepted", fresh())
	}
	for _, ch := range changes {
		c := fresh()
		ch.of(&c)
		if impl.IsCell(c) != ch.valid {
			t.Errorf("%s, %s: IsCell is not %v", c.Name, ch.name, ch.valid)
		}
	}
}

// invalidCells are cells that miss each of the conditions.
func invalidCells() []impl.Cell {
	changes := []func(c *impl.Cell){
		func(c *impl.Cell) { c.Name = "" },
		func(c *impl.Cell) { c.Name = "Inv" },
		func(c *impl.Cell) { c.Kind = 0 },
		func(c *impl.Cell) { c.Kind = impl.CellLatch + 1 },
		func(c *impl.Cell) { c.Pins = nil },
		func(c *impl.Cell) { c.Pins = c.Pins[1:] },
		func(c *impl.Cell) { c.Pins = c.Pins[:len(c.Pins)-1] },
		func(c *impl.Cell) { c.Pins[0].Name = c.Pins[len(c.Pins)-1].Name },
		func(c *impl.Cell) { c.Pins[0].Name = "?" },
		func(c *impl.Cell) { c.Pins[0].Cap = impl.MaxPinCap + 1 },
		func(c *impl.Cell) { c.Pins[len(c.Pins)-1].Cap = 1 },
		func(c *impl.Cell) { c.Pins[len(c.Pins)-1].Clock = true },
		func(c *impl.Cell) { c.Pins[0].Clock = true },
		func(c *impl.Cell) { c.Arcs = append(c.Arcs, c.Arcs[0]) },
		func(c *impl.Cell) { c.Arcs[0].Kind = 0 },
		func(c *impl.Cell) { c.Arcs[0].From = -1 },
		func(c *impl.Cell) { c.Arcs[0].To = math.MaxInt64 },
		func(c *impl.Cell) { c.Arcs[0].Delay = nil },
		func(c *impl.Cell) { c.Truth = append(c.Truth, 0) },
		func(c *impl.Cell) { c.Leak = -1 },
		func(c *impl.Cell) { c.Energy = impl.MaxPowerValue + 1 },
	}
	list := []impl.Cell{{}, fullLatch(impl.MaxArcs + 1), flop(), latch()}
	for _, change := range changes {
		for _, fresh := range []func() impl.Cell{inverter, and, risingFlop, plainLatch} {
			c := fresh()
			change(&c)
			list = append(list, c)
		}
	}
	return list
}

// cloneCell returns a copy of a cell that shares no memory with it. Each list has an element in
// the capacity behind it.
func cloneCell(c impl.Cell) impl.Cell {
	c.Pins = cloneWith(c.Pins, in("spare"))
	c.Truth = cloneWith(c.Truth, -77)
	c.Arcs = cloneWith(c.Arcs, arc(impl.ArcSetup, -77, -77, -77))
	for i := range c.Arcs {
		c.Arcs[i].Delay = cloneTables(c.Arcs[i].Delay)
		c.Arcs[i].Slew = cloneTables(c.Arcs[i].Slew)
	}
	return c
}

func cloneTables(tables []impl.Table) []impl.Table {
	copies := cloneWith(tables, flat(-77))
	for i, t := range copies {
		copies[i] = table(cloneWith(t.Slews, -77), cloneWith(t.Loads, -77), cloneWith(t.Values, -77)...)
	}
	return copies
}

func cloneWith[E any](list []E, spare E) []E {
	return append(slices.Clone(list), spare)[:len(list)]
}

// memoryOf returns all that is in the lists of a cell and in the capacity behind them.
func memoryOf(c impl.Cell) string {
	text := fmt.Sprint(c.Name, c.Kind, c.Leak, c.Energy, len(c.Pins), len(c.Arcs), len(c.Truth), c.Pins[:cap(c.Pins)], c.Truth[:cap(c.Truth)])
	for _, a := range c.Arcs[:cap(c.Arcs)] {
		text += fmt.Sprint(a.Kind, a.From, a.To, a.Sense, len(a.Delay), len(a.Slew))
		for _, t := range slices.Concat(a.Delay[:cap(a.Delay)], a.Slew[:cap(a.Slew)]) {
			text += fmt.Sprint(len(t.Slews), len(t.Loads), len(t.Values))
			text += fmt.Sprint(t.Slews[:cap(t.Slews)], t.Loads[:cap(t.Loads)], t.Values[:cap(t.Values)])
		}
	}
	return text
}
