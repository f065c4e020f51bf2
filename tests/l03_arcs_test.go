package tests

import (
	"math"
	"slices"
	"testing"

	"loop.example/g00861/impl"
)

// checkAddedArcs adds every arc around the ranges of kinds, pins and senses to a cell. Those that
// fit returns are valid, and no others.
func checkAddedArcs(t *testing.T, name string, fresh func() impl.Cell, fit func(kind, from, to, sense int64) bool) {
	t.Helper()
	pins := []int64{math.MinInt64, -1, 0, 1, 2, 3, 4, 5, 1 << 32, math.MaxInt64}
	for _, kind := range []int64{math.MinInt64, -1, 0, 1, 2, 3, 4, 5, 6, 1<<32 + impl.ArcComb, math.MaxInt64} {
		for _, from := range pins {
			for _, to := range pins {
				for _, sense := range []int64{math.MinInt64, -1, 0, 1, 2, 3, 4, math.MaxInt64} {
					c := fresh()
					c.Arcs = append(c.Arcs, arc(kind, from, to, sense))
					if impl.IsCell(c) != fit(kind, from, to, sense) {
						t.Errorf("%s: the arc %d, from %d, to %d, sense %d: IsCell is wrong", name, kind, from, to, sense)
					}
				}
			}
		}
	}
}

func TestArcsOfGates(t *testing.T) {
	bare := func() impl.Cell { return gate(make([]int64, 8)) }
	checkAddedArcs(t, "gate", bare, func(kind, from, to, sense int64) bool {
		return kind == 1 && from >= 0 && from <= 2 && to == 3 && sense >= 1 && sense <= 3
	})
}

// The pins of flop are d0, ck, d1, q.
func TestArcsOfFlops(t *testing.T) {
	launches := func(kind, from, to, sense int64) bool {
		return (kind == 2 || kind == 3) && from == 1 && to == 3 && sense == 0
	}
	checks := func(kind, from, to, sense int64) bool {
		return (kind == 4 || kind == 5) && from == 1 && (to == 0 || to == 2) && sense == 0
	}
	checkAddedArcs(t, "bare flop", func() impl.Cell { return flop() }, launches)
	rising := func() impl.Cell { return flop(arc(impl.ArcRise, 1, 3, 0)) }
	checkAddedArcs(t, "rising flop", rising, checks)
	checkAddedArcs(t, "falling flop", fallingFlop, checks)
}

// The pins of latch are d0, d1, g, q.
func TestArcsOfLatches(t *testing.T) {
	noComb := func() impl.Cell { return latch(arc(impl.ArcRise, 2, 3, 0)) }
	checkAddedArcs(t, "latch without comb", noComb, func(kind, from, to, sense int64) bool {
		return kind == 1 && (from == 0 || from == 1) && to == 3 && sense >= 1 && sense <= 3
	})
	noRise := func() impl.Cell { return latch(arc(impl.ArcComb, 1, 3, impl.SenseBoth)) }
	checkAddedArcs(t, "latch without rise", noRise, func(kind, from, to, sense int64) bool {
		return kind == 2 && from == 2 && to == 3 && sense == 0
	})
	checkAddedArcs(t, "latch", plainLatch, func(kind, from, to, sense int64) bool {
		other := kind == 1 && from == 1 && to == 3 && sense >= 1 && sense <= 3
		check := (kind == 4 || kind == 5) && from == 2 && (to == 0 || to == 1) && sense == 0
		return other || check
	})
}

// cellWithEachArc returns a cell that has, as its first arc, one of a kind.
func cellWithEachArc(kind int64) impl.Cell {
	switch kind {
	case impl.ArcComb:
		return and()
	case impl.ArcRise:
		return flop(arc(impl.ArcRise, 1, 3, 0), arc(impl.ArcHold, 1, 2, 0))
	case impl.ArcFall:
		return fallingFlop()
	}
	return flop(arc(kind, 1, 0, 0), arc(impl.ArcRise, 1, 3, 0))
}

// In every kind of arc just one number of tables is right in Delay, and one in Slew.
func TestNumberOfTables(t *testing.T) {
	for kind := int64(impl.ArcComb); kind <= impl.ArcHold; kind++ {
		slews := 2
		if kind == impl.ArcSetup || kind == impl.ArcHold {
			slews = 0
		}
		for delay := range 5 {
			for slew := range 5 {
				c := cellWithEachArc(kind)
				c.Arcs[0].Delay = slices.Repeat([]impl.Table{flat(1)}, delay)
				c.Arcs[0].Slew = slices.Repeat([]impl.Table{flat(2)}, slew)
				if want := delay == 2 && slew == slews; impl.IsCell(c) != want {
					t.Errorf("kind %d, %d delays, %d slews: IsCell is not %v", kind, delay, slew, want)
				}
			}
		}
		c := cellWithEachArc(kind)
		c.Arcs[0].Delay, c.Arcs[0].Slew = nil, nil
		if impl.IsCell(c) {
			t.Errorf("kind %d: an arc without tables is accepted", kind)
		}
	}
}

// checkTable puts a table into each place of an arc of a kind.
func checkTable(t *testing.T, kind int64, put impl.Table, want bool) {
	t.Helper()
	for i := range 2 {
		c := cellWithEachArc(kind)
		c.Arcs[0].Delay[i] = put
		if impl.IsCell(c) != want {
			t.Errorf("kind %d, Delay %d is %v: IsCell is not %v", kind, i, put, want)
		}
		if kind == impl.ArcSetup || kind == impl.ArcHold {
			continue
		}
		c = cellWithEachArc(kind)
		c.Arcs[0].Slew[i] = put
		if impl.IsCell(c) != want {
			t.Errorf("kind %d, Slew %d is %v: IsCell is not %v", kind, i, put, want)
		}
	}
}

// Only checks may have negative values, but valid tables they have, too.
func TestTablesOfArcs(t *testing.T) {
	for kind := int64(impl.ArcComb); kind <= impl.ArcHold; kind++ {
		for _, sample := range sampleTables() {
			negative := slices.ContainsFunc(sample.Values, func(v int64) bool { return v < 0 })
			checkTable(t, kind, sample, !negative || kind >= impl.ArcSetup)
		}
		for _, bad := range invalidTables() {
			checkTable(t, kind, bad, false)
		}
		for _, v := range []int64{0, 1, mostValue} {
			checkTable(t, kind, flat(v), true)
		}
		for _, v := range []int64{-1, -mostValue} {
			checkTable(t, kind, flat(v), kind >= impl.ArcSetup)
			for place := range 4 {
				wide := table(nums(0, 1), nums(3, 4), 5, 6, 7, 8)
				wide.Values[place] = v
				checkTable(t, kind, wide, kind >= impl.ArcSetup)
			}
		}
	}
}

// A mistake in any of the arcs is found.
func TestEveryArcIsChecked(t *testing.T) {
	for i := range impl.MaxArcs {
		full := func() impl.Cell { return fullLatch(impl.MaxArcs) }
		checkChanges(t, full, []change{
			{"kind", false, func(c *impl.Cell) { c.Arcs[i].Kind = 6 }},
			{"from", false, func(c *impl.Cell) { c.Arcs[i].From = 4 }},
			{"to", false, func(c *impl.Cell) { c.Arcs[i].To = 0 }},
			{"sense", false, func(c *impl.Cell) { c.Arcs[i].Sense = 4 }},
			{"delay", false, func(c *impl.Cell) { c.Arcs[i].Delay[1] = impl.Table{} }},
			{"slew", false, func(c *impl.Cell) { c.Arcs[i].Slew = []impl.Table{flat(1)} }},
			{"other delay", true, func(c *impl.Cell) { c.Arcs[i].Delay[0] = flat(99) }},
		})
	}
}

// No two arcs have the same Kind, From and To, whatever else differs and wherever they are.
func TestArcsDiffer(t *testing.T) {
	for i := range impl.MaxArcs - 1 {
		for at := range impl.MaxArcs {
			c := fullLatch(impl.MaxArcs - 1)
			twin := arc(c.Arcs[i].Kind, c.Arcs[i].From, c.Arcs[i].To, c.Arcs[i].Sense)
			if twin.Kind == impl.ArcComb {
				twin.Sense = impl.SenseBoth
			}
			twin.Delay[0] = flat(77)
			if c.Arcs = slices.Insert(c.Arcs, at, twin); impl.IsCell(c) {
				t.Errorf("a second arc as the arc %d at %d is accepted", i, at)
			}
		}
	}
	checkChanges(t, risingFlop, []change{
		{"another kind", true, func(c *impl.Cell) { c.Arcs = append(c.Arcs, arc(impl.ArcHold, 1, 2, 0)) }},
		{"the same kind", false, func(c *impl.Cell) { c.Arcs = append(c.Arcs, arc(impl.ArcSetup, 1, 2, 0)) }},
		{"the same kind again", false, func(c *impl.Cell) { c.Arcs = append(c.Arcs, arc(impl.ArcRise, 1, 3, 0)) }},
	})
}

func TestNumberOfArcs(t *testing.T) {
	for n := 2; n <= impl.MaxArcs+2; n++ {
		if want := n <= 8; impl.IsCell(fullLatch(n)) != want {
			t.Errorf("%d arcs: IsCell is not %v", n, want)
		}
	}
	if !impl.IsCell(gate(nums(0, 1))) || !impl.IsCell(gate(make([]int64, 16))) {
		t.Error("a gate without arcs is not accepted")
	}
}
