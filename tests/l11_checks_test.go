package tests

import (
	"fmt"
	"math"
	"testing"

	"loop.example/g00861/impl"
)

// The required times of checks.

// heldBlock has a rising flop r, a falling one f, a latch l and an inverter i. The arc 2 of r, which
// is a setup check, has the slews 0 and 10 of the data and 0 and 100 of the clock.
func heldBlock() impl.Block {
	b := wiredDesign(impl.Design{
		Instances: []impl.Instance{inst("i", notCell, 0, 1), inst("r", riseCell, 1, 0, 1, 2), inst("f", fallCell, 1, 0, 1, 3), inst("l", heldCell, 1, 1, 0, 4)},
		Nets:      []string{"n0", "n1", "n2", "n3", "n4"},
		Ports:     []impl.Port{inPort("a", 0)},
	})
	b = tabled(b, 9)
	arcs := b.Library.Cells[riseCell].Arcs
	arcs[2].Delay = []impl.Table{table(nums(0, 10), nums(0, 100), 0, 100, -10, -1000), table(nums(0, 2), nums(7), -1, -2)}
	return b
}

func checkRequired(t *testing.T, b impl.Block, instance, arc, transition, data, clock, want, wantCode int64) {
	t.Helper()
	got, code := impl.CheckTime(b, instance, arc, transition, data, clock)
	checkList(t, fmt.Sprintf("CheckTime(%d, %d, %d, %d, %d)", instance, arc, transition, data, clock), nums(got), code, nums(want), wantCode)
}

// The slew of the data is that of the slews of the table, and the slew of the clock that of its
// loads.
func TestCheckTimes(t *testing.T) {
	b := heldBlock()
	for _, c := range []struct{ transition, data, clock, want int64 }{
		{impl.Rise, 0, 0, 0}, {impl.Rise, 0, 100, 100}, {impl.Rise, 10, 0, -10}, {impl.Rise, 10, 100, -1000},
		{impl.Rise, 0, 10, 10}, {impl.Rise, 10, 10, -109}, {impl.Rise, 5, 0, -5}, {impl.Rise, 100, 0, -10}, {impl.Rise, 0, 1000000, 100}, {impl.Rise, 1000000, 1000000, -1000},
		// The exact values are -227.5, -1.09, -35.43 and, below, -1.5.
		{impl.Rise, 5, 50, -227}, {impl.Rise, 1, 1, -1}, {impl.Rise, 9, 3, -35},
		{impl.Fall, 0, 0, -1}, {impl.Fall, 1, 0, -1}, {impl.Fall, 2, 0, -2}, {impl.Fall, 3, 0, -2}, {impl.Fall, 0, 1000000, -1}, {impl.Fall, 1000000, 0, -2},
	} {
		checkRequired(t, b, 1, 2, c.transition, c.data, c.clock, c.want, impl.ErrNone)
	}
}

// A constant table yields its value: that of the transition of the data.
func TestConstantChecks(t *testing.T) {
	b := heldBlock()
	b.Library.Cells[riseCell].Arcs[0].Delay = []impl.Table{flat(-7), flat(8)}
	for _, slew := range nums(0, 1, 99, 1000000) {
		checkRequired(t, b, 1, 0, impl.Rise, slew, 1000000-slew, -7, impl.ErrNone)
		checkRequired(t, b, 1, 0, impl.Fall, slew, 1000000-slew, 8, impl.ErrNone)
	}
}

// Every arc of every instance either is a check, or has no required time.
func TestCheckTimesOfAllArcs(t *testing.T) {
	b := heldBlock()
	checks := 0
	for i, instance := range b.Design.Instances {
		for k, a := range b.Library.Cells[instance.Cell].Arcs {
			isCheck := a.Kind == impl.ArcSetup || a.Kind == impl.ArcHold
			for n := range int64(80) {
				transition, data, clock := n%2, n*n%71, n*n*n%531
				if !isCheck {
					checkRequired(t, b, int64(i), int64(k), transition, data, clock, 0, impl.ErrNotFound)
					continue
				}
				checks++
				_, want := floorAndCeiling(exactValue(a.Delay[transition], data, clock))
				checkRequired(t, b, int64(i), int64(k), transition, data, clock, want, impl.ErrNone)
			}
		}
	}
	checkNumbers(t, "the number of checks", nums(int64(checks)), 6*80)
}

func TestChecksThatAreNotThere(t *testing.T) {
	b := heldBlock()
	for _, instance := range outside(4) {
		checkRequired(t, b, instance, 0, impl.Rise, 0, 0, 0, impl.ErrNotFound)
	}
	for instance, arcs := range []int{1, 3, 3, 5} {
		for _, arc := range outside(arcs) {
			checkRequired(t, b, int64(instance), arc, impl.Rise, 0, 0, 0, impl.ErrNotFound)
		}
	}
	// The last check of each instance: the arc 2 of r, 1 of f and 2 of l.
	checkRequired(t, b, 1, 2, impl.Rise, 0, 0, 0, impl.ErrNone)
	checkRequired(t, b, 2, 2, impl.Rise, 0, 0, 0, impl.ErrNotFound)
	checkRequired(t, impl.Block{}, 0, 0, impl.Rise, 0, 0, 0, impl.ErrNotFound)
	checkRequired(t, longestBlock(), 0, 0, impl.Rise, 0, 0, 0, impl.ErrNotFound)
}

// noSlews are numbers that are no slews.
func noSlews() []int64 {
	return nums(-1, 1000001, -1000000, 1<<32, 1<<32+5, math.MinInt64, math.MinInt64+5, math.MaxInt64)
}

func TestChecksWithWrongNumbers(t *testing.T) {
	b := heldBlock()
	for _, transition := range nums(-1, 2, 3, 1<<32, 1<<32+1, math.MinInt64, math.MaxInt64) {
		checkRequired(t, b, 1, 2, transition, 0, 0, 0, impl.ErrRange)
	}
	for _, slew := range noSlews() {
		for _, transition := range nums(impl.Rise, impl.Fall) {
			checkRequired(t, b, 1, 2, transition, slew, 0, 0, impl.ErrRange)
			checkRequired(t, b, 1, 2, transition, 0, slew, 0, impl.ErrRange)
			checkRequired(t, b, 1, 2, transition, slew, slew, 0, impl.ErrRange)
		}
	}
}

// A block that is not valid comes before a check that is not there, and this before wrong numbers.
func TestOrderOfTheErrorsOfChecks(t *testing.T) {
	for _, b := range brokenBlocks() {
		for _, n := range nums(0, 1, -1, 5, math.MinInt64, math.MaxInt64) {
			checkRequired(t, b, n, n, n, n, n, 0, impl.ErrInvalid)
			checkRequired(t, b, 0, 0, impl.Rise, 0, 0, 0, impl.ErrInvalid)
			checkRequired(t, b, 1, 2, n, 0, 0, 0, impl.ErrInvalid)
		}
	}
	b := heldBlock()
	for _, wrong := range nums(-1, 1000001, math.MaxInt64) {
		checkRequired(t, b, 4, 0, wrong, 0, 0, 0, impl.ErrNotFound)
		checkRequired(t, b, 1, 1, wrong, wrong, wrong, 0, impl.ErrNotFound)
		checkRequired(t, b, 1, 3, impl.Rise, wrong, 0, 0, impl.ErrNotFound)
		checkRequired(t, b, -1, 2, impl.Rise, 0, wrong, 0, impl.ErrNotFound)
	}
}
