package tests

import (
	"math"
	"slices"
	"strconv"
	"testing"

	"loop.example/g00861/impl"
)

// The validity of libraries, and what is found in libraries and cells.

func checkNumbers(t *testing.T, name string, got []int64, want ...int64) {
	t.Helper()
	if !slices.Equal(got, want) {
		t.Errorf("%s: %v; want %v", name, got, want)
	}
}

// numbered returns a library of n cells with the names c0, c1 and so on.
func numbered(n int) impl.Library {
	cells := validCells()
	var l impl.Library
	for i := range n {
		c := cells[i%len(cells)]
		c.Name = "c" + strconv.Itoa(i)
		l.Cells = append(l.Cells, c)
	}
	return l
}

func TestNumberOfCells(t *testing.T) {
	if !impl.IsLibrary(impl.Library{}) || !impl.IsLibrary(impl.Library{Cells: []impl.Cell{}}) {
		t.Error("a library without cells is not accepted")
	}
	for n := range 12 {
		if want := n <= 8; impl.IsLibrary(numbered(n)) != want {
			t.Errorf("%d cells: IsLibrary is not %v", n, want)
		}
	}
}

func TestCellsHaveDifferentNames(t *testing.T) {
	for i := range impl.MaxCells {
		for k := range impl.MaxCells {
			l := numbered(impl.MaxCells)
			l.Cells[i].Name = l.Cells[k].Name
			if impl.IsLibrary(l) != (i == k) {
				t.Errorf("the cells %d and %d have one name: IsLibrary is not %v", i, k, i == k)
			}
		}
	}
}

func TestEveryCellIsChecked(t *testing.T) {
	for _, bad := range invalidCells() {
		if impl.IsLibrary(impl.Library{Cells: []impl.Cell{bad}}) {
			t.Errorf("a library of %v is accepted", bad)
		}
	}
	for i := range impl.MaxCells {
		l := numbered(impl.MaxCells)
		l.Cells[i].Leak = -1
		if impl.IsLibrary(l) {
			t.Errorf("the cell %d is not checked", i)
		}
	}
}

func TestCellNamedFinds(t *testing.T) {
	for n := range impl.MaxCells + 1 {
		l := numbered(n)
		for i := range impl.MaxCells + 1 {
			want := int64(i)
			if i >= n {
				want = -1
			}
			if got := impl.CellNamed(l, "c"+strconv.Itoa(i)); got != want {
				t.Errorf("the cell %d of %d is found at %d", i, n, got)
			}
		}
		for _, name := range append(badNames(), "c", "c00", "cc", "none", "y") {
			if got := impl.CellNamed(l, name); got != -1 {
				t.Errorf("%q is found at %d", name, got)
			}
		}
	}
}

func TestCellNamedOfInvalidLibraries(t *testing.T) {
	tooMany, twins, bad := numbered(impl.MaxCells+1), numbered(3), numbered(3)
	twins.Cells[2].Name = "c1"
	bad.Cells[2].Kind = 0
	for i, l := range []impl.Library{tooMany, twins, bad} {
		for _, name := range []string{"c0", "c1", "c2", "", "none"} {
			if got := impl.CellNamed(l, name); got != -1 {
				t.Errorf("library %d: %q is found at %d", i, name, got)
			}
		}
	}
	for _, c := range invalidCells() {
		if got := impl.CellNamed(impl.Library{Cells: []impl.Cell{c}}, c.Name); got != -1 {
			t.Errorf("%v is found at %d", c, got)
		}
	}
}

func TestPinNamedFinds(t *testing.T) {
	for _, c := range validCells() {
		for i, p := range c.Pins {
			if got := impl.PinNamed(c, p.Name); got != int64(i) {
				t.Errorf("%s: the pin %s is found at %d", c.Name, p.Name, got)
			}
		}
		for _, name := range append(badNames(), "none", "zz", c.Name, c.Pins[0].Name+"0") {
			if got := impl.PinNamed(c, name); got != -1 {
				t.Errorf("%s: %q is found at %d", c.Name, name, got)
			}
		}
	}
	for _, c := range invalidCells() {
		for _, name := range []string{"i0", "d0", "ck", "g", "q", "y", "", "?"} {
			if got := impl.PinNamed(c, name); got != -1 {
				t.Errorf("%v: %q is found at %d", c, name, got)
			}
		}
	}
}

func TestClockPinFinds(t *testing.T) {
	cases := []struct {
		c    impl.Cell
		want int64
	}{
		{inverter(), -1}, {and(), -1}, {gate(make([]int64, 16)), -1},
		{risingFlop(), 1}, {fallingFlop(), 1}, {plainLatch(), 2}, {wideTables(), 2}, {fullLatch(2), 0},
	}
	for _, c := range cases {
		if got := impl.ClockPin(c.c); got != c.want {
			t.Errorf("the clock pin of %s is %d; want %d", c.c.Name, got, c.want)
		}
	}
	for _, c := range invalidCells() {
		if got := impl.ClockPin(c); got != -1 {
			t.Errorf("the clock pin of %v is %d", c, got)
		}
	}
}

func TestArcsToFinds(t *testing.T) {
	checkNumbers(t, "comb of full latch", impl.ArcsTo(fullLatch(8), 4, impl.ArcComb), 0)
	checkNumbers(t, "rise of full latch", impl.ArcsTo(fullLatch(8), 4, impl.ArcRise), 1)
	checkNumbers(t, "setup of full latch", impl.ArcsTo(fullLatch(8), 2, impl.ArcSetup), 4)
	checkNumbers(t, "hold of full latch", impl.ArcsTo(fullLatch(8), 3, impl.ArcHold), 7)
	checkNumbers(t, "comb of xor", impl.ArcsTo(xor(), 2, impl.ArcComb), 0, 1)
	checkNumbers(t, "comb to an input", impl.ArcsTo(xor(), 0, impl.ArcComb))
	checkNumbers(t, "setup of flop", impl.ArcsTo(risingFlop(), 0, impl.ArcSetup), 2)
	checkNumbers(t, "hold of flop", impl.ArcsTo(risingFlop(), 0, impl.ArcHold), 0)
	checkNumbers(t, "checks of the clock pin", impl.ArcsTo(risingFlop(), 1, impl.ArcSetup))
	checkNumbers(t, "fall of rising flop", impl.ArcsTo(risingFlop(), 3, impl.ArcFall))
	// The arcs to the output need not be side by side.
	c := latch(arc(impl.ArcSetup, 2, 0, 0), arc(impl.ArcComb, 1, 3, impl.SensePos), arc(impl.ArcHold, 2, 1, 0),
		arc(impl.ArcRise, 2, 3, 0), arc(impl.ArcComb, 0, 3, impl.SenseNeg))
	checkNumbers(t, "comb of latch", impl.ArcsTo(c, 3, impl.ArcComb), 1, 4)
}

// Every arc is found once, and the indices increase strictly.
func TestArcsToIsComplete(t *testing.T) {
	for _, c := range validCells() {
		found := make([]int, len(c.Arcs))
		for pin := int64(-2); pin < impl.MaxPins+2; pin++ {
			for kind := int64(-1); kind < impl.ArcHold+3; kind++ {
				list := impl.ArcsTo(c, pin, kind)
				for i, arc := range list {
					if c.Arcs[arc].To != pin || c.Arcs[arc].Kind != kind || i > 0 && arc <= list[i-1] {
						t.Errorf("%s: ArcsTo(%d, %d) = %v", c.Name, pin, kind, list)
					}
					found[arc]++
				}
			}
		}
		if slices.ContainsFunc(found, func(n int) bool { return n != 1 }) {
			t.Errorf("%s: the arcs are found so often: %v", c.Name, found)
		}
	}
}

func TestArcsToOfNothing(t *testing.T) {
	for _, c := range validCells() {
		last := int64(len(c.Pins) - 1)
		for _, far := range []int64{math.MinInt64, -1, last + 1, 1 << 32, math.MaxInt64} {
			for kind := int64(impl.ArcComb); kind <= impl.ArcHold; kind++ {
				checkNumbers(t, "a pin that is not there", impl.ArcsTo(c, far, kind))
			}
		}
		for _, kind := range []int64{math.MinInt64, -1, 0, impl.ArcHold + 1, 1<<32 + 1, math.MaxInt64} {
			for pin := range last + 1 {
				checkNumbers(t, "a kind that is not there", impl.ArcsTo(c, pin, kind))
			}
		}
	}
	for _, c := range invalidCells() {
		for i, a := range c.Arcs {
			if list := impl.ArcsTo(c, a.To, a.Kind); list != nil {
				t.Errorf("%v: the arc %d is found: %v", c, i, list)
			}
		}
	}
}
