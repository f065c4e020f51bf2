package tests

import (
	"math"
	"strconv"
	"testing"

	"loop.example/g00861/impl"
)

// withInputs returns a cell of a kind with n inputs, the first of which is the clock pin, if the
// kind has one, and with an arc from each of them where it may have one.
func withInputs(kind int64, n int) impl.Cell {
	c := impl.Cell{Name: "c", Kind: kind}
	for i := range n {
		c.Pins = append(c.Pins, in("i"+strconv.Itoa(i)))
		if kind == impl.CellLatch && i > 0 || kind == impl.CellGate {
			c.Arcs = append(c.Arcs, arc(impl.ArcComb, int64(i), int64(n), impl.SenseBoth))
		}
	}
	c.Pins = append(c.Pins, out("q"))
	if kind == impl.CellGate {
		c.Truth = make([]int64, 1<<n)
		return c
	}
	c.Pins[0].Clock = n > 0
	c.Arcs = append(c.Arcs, arc(impl.ArcRise, 0, int64(n), 0))
	return c
}

func TestNumberOfPins(t *testing.T) {
	least := map[int64]int{impl.CellGate: 2, impl.CellFlop: 2, impl.CellLatch: 3}
	for kind, least := range least {
		for pins := 1; pins <= impl.MaxPins+3; pins++ {
			want := pins >= least && pins <= 5
			if c := withInputs(kind, pins-1); impl.IsCell(c) != want {
				t.Errorf("kind %d, %d pins: IsCell is not %v", kind, pins, want)
			}
		}
	}
	// The length of a truth table of so many inputs is no int64.
	for _, pins := range []int{0, 64, 65, 66, 200} {
		c := inverter()
		c.Pins, c.Truth, c.Arcs = nil, nil, nil
		for i := range pins {
			c.Pins = append(c.Pins, in("i"+strconv.Itoa(i)))
		}
		if pins > 0 {
			c.Pins[pins-1] = out("y")
		}
		for _, truth := range [][]int64{nil, {0}, {0, 1}} {
			if c.Truth = truth; impl.IsCell(c) {
				t.Errorf("%d pins and the truth table %v are accepted", pins, truth)
			}
		}
	}
}

func TestPinsHaveDifferentNames(t *testing.T) {
	for _, fresh := range []func() impl.Cell{xor, risingFlop, plainLatch, func() impl.Cell { return fullLatch(4) }} {
		for i := range fresh().Pins {
			for k := range fresh().Pins {
				c := fresh()
				c.Pins[i].Name = c.Pins[k].Name
				if impl.IsCell(c) != (i == k) {
					t.Errorf("%s: the pins %d and %d have one name: IsCell is not %v", c.Name, i, k, i == k)
				}
			}
		}
	}
}

// bareGate returns a gate with two inputs and no arcs, which would depend on the output.
func bareGate() impl.Cell {
	return gate(nums(0, 0, 0, 0))
}

// Every pin has just one direction that is valid.
func TestDirectionsOfPins(t *testing.T) {
	for _, fresh := range []func() impl.Cell{inverter, bareGate, and, risingFlop, plainLatch} {
		last := len(fresh().Pins) - 1
		for i := range fresh().Pins {
			for _, dir := range []int64{math.MinInt64, -1, 0, impl.PinIn, impl.PinOut, 3, math.MaxInt64, 1<<32 + impl.PinIn} {
				c := fresh()
				c.Pins[i].Dir = dir
				want := i < last && dir == 1 || i == last && dir == 2
				if impl.IsCell(c) != want {
					t.Errorf("%s: the pin %d has the direction %d: IsCell is not %v", c.Name, i, dir, want)
				}
			}
		}
	}
}

// The output is there and is the last pin, even where no arc tells which one it is.
func TestOutputIsTheLastPin(t *testing.T) {
	checkChanges(t, bareGate, []change{
		{"the output comes first", false, func(c *impl.Cell) { c.Pins = []impl.Pin{out("y"), in("a"), in("b")} }},
		{"the output is in the middle", false, func(c *impl.Cell) { c.Pins = []impl.Pin{in("a"), out("y"), in("b")} }},
		{"the output is the last one", true, func(c *impl.Cell) { c.Pins = []impl.Pin{in("a"), in("b"), out("y")} }},
		{"no output", false, func(c *impl.Cell) { c.Pins = []impl.Pin{in("a"), in("b"), in("y")} }},
		{"two outputs", false, func(c *impl.Cell) { c.Pins = []impl.Pin{in("a"), out("x"), out("y")} }},
		{"two outputs, the first and the last", false, func(c *impl.Cell) { c.Pins = []impl.Pin{out("x"), in("a"), out("y")} }},
		{"outputs only", false, func(c *impl.Cell) { c.Pins = []impl.Pin{out("w"), out("x"), out("y")} }},
		{"an output for one input", false, func(c *impl.Cell) { c.Pins, c.Truth = []impl.Pin{out("y"), in("a")}, nums(0, 0) }},
	})
}

func TestCapacitancesOfPins(t *testing.T) {
	for _, fresh := range []func() impl.Cell{inverter, bareGate, and, risingFlop, plainLatch} {
		last := len(fresh().Pins) - 1
		for i := range fresh().Pins {
			for _, load := range []int64{math.MinInt64, -1, 0, 1, 500, impl.MaxPinCap, impl.MaxPinCap + 1, math.MaxInt64} {
				c := fresh()
				c.Pins[i].Cap = load
				want := load == 0 || i < last && load >= 0 && load <= 500
				if impl.IsCell(c) != want {
					t.Errorf("%s: the pin %d has the capacitance %d: IsCell is not %v", c.Name, i, load, want)
				}
			}
		}
	}
}

// A gate has no clock pin, and a flop and a latch have one, which is an input.
func TestClockPins(t *testing.T) {
	none := func(c *impl.Cell) {
		for i := range c.Pins {
			c.Pins[i].Clock = false
		}
	}
	fresh := map[string]func() impl.Cell{
		"gate":  func() impl.Cell { return gate(make([]int64, 8)) },
		"flop":  func() impl.Cell { return flop(arc(impl.ArcRise, 1, 3, 0)) },
		"latch": plainLatch,
	}
	wanted := map[string]int{"gate": 0, "flop": 1 << 1, "latch": 1 << 2}
	for name, fresh := range fresh {
		for clocks := range 1 << 4 {
			c := fresh()
			none(&c)
			for i := range c.Pins {
				c.Pins[i].Clock = clocks>>i&1 == 1
			}
			if impl.IsCell(c) != (clocks == wanted[name]) {
				t.Errorf("%s: clocks at the pins %04b: IsCell is not %v", name, clocks, clocks == wanted[name])
			}
		}
	}
}

// The clock pin of a flop or a latch may be any of its inputs.
func TestClockPinInEveryPlace(t *testing.T) {
	for at := range int64(3) {
		f := flop(arc(impl.ArcFall, at, 3, 0))
		f.Pins = []impl.Pin{in("a"), in("b"), in("c"), out("q")}
		f.Pins[at] = clock("ck")
		l := latch(arc(impl.ArcRise, at, 3, 0), arc(impl.ArcComb, (at+1)%3, 3, impl.SenseNeg))
		l.Pins = f.Pins
		if !impl.IsCell(f) || !impl.IsCell(l) {
			t.Errorf("the clock pin %d is not accepted", at)
		}
	}
	// An output alone cannot be the clock pin, even if an arc begins at it.
	f := flop(arc(impl.ArcRise, 1, 1, 0))
	f.Pins = []impl.Pin{in("d"), {Name: "q", Dir: impl.PinOut, Clock: true}}
	if impl.IsCell(f) {
		t.Error("an output as the clock pin is accepted")
	}
}
