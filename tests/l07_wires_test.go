package tests

import (
	"math"
	"testing"

	"loop.example/g00861/impl"
)

// The validity of wires, and lumped wires.

func TestWireConstants(t *testing.T) {
	checkNumbers(t, "limits", nums(impl.MaxWireNodes, impl.MaxRes, impl.MaxCap), 8, 1000, 500)
}

func checkWire(t *testing.T, w impl.Wire, sinks int64, want bool) {
	t.Helper()
	if impl.IsWire(w, sinks) != want {
		t.Errorf("IsWire(%+v, %d) is not %v", w, sinks, want)
	}
}

// treeWire returns a wire of five nodes and four sinks.
func treeWire() impl.Wire {
	return wire(nums(-1, 0, 0, 2, 1), nums(0, 10, 20, 30, 40), nums(5, 6, 7, 8, 9), 3, 0, 4, 3)
}

func TestWires(t *testing.T) {
	checkWire(t, wire(nums(-1), nums(0), nums(0)), 0, true)
	checkWire(t, wire(nums(-1), nums(0), nums(0), 0, 0, 0), 3, true)
	checkWire(t, treeWire(), 4, true)
	checkWire(t, impl.Wire{}, 0, false)
	checkWire(t, impl.Wire{}, -1, false)
	checkWire(t, impl.Wire{Sink: nums(0)}, 1, false)
	for _, block := range wiredBlocks() {
		for _, w := range block.b.Wires {
			checkWire(t, w, int64(len(w.Sink)), true)
		}
	}
}

func TestNumberOfNodes(t *testing.T) {
	for nodes := 1; nodes <= 40; nodes++ {
		w := drawnBlock(designCase{"ports", impl.Library{}, ports(1, 2)}, "tree", nodes).Wires[0]
		checkWire(t, w, 2, nodes <= impl.MaxWireNodes)
		w = drawnBlock(designCase{"ports", impl.Library{}, ports(1, 2)}, "chain", nodes).Wires[0]
		checkWire(t, w, 2, nodes <= impl.MaxWireNodes)
	}
}

func TestLengthsOfLists(t *testing.T) {
	for _, list := range []func(w *impl.Wire) *[]int64{
		func(w *impl.Wire) *[]int64 { return &w.Parent },
		func(w *impl.Wire) *[]int64 { return &w.Res },
		func(w *impl.Wire) *[]int64 { return &w.Cap },
		func(w *impl.Wire) *[]int64 { return &w.Sink },
	} {
		for _, fresh := range []func() impl.Wire{treeWire, func() impl.Wire { return wire(nums(-1), nums(0), nums(0), 0) }} {
			w := fresh()
			sinks := int64(len(w.Sink))
			*list(&w) = append(*list(&w), 0)
			checkWire(t, w, sinks, false)
			w = fresh()
			*list(&w) = (*list(&w))[:len(*list(&w))-1]
			checkWire(t, w, sinks, false)
			*list(&w) = nil
			checkWire(t, w, sinks, false)
		}
	}
}

func TestNumberOfSinks(t *testing.T) {
	for n := range 40 {
		w := wire(nums(-1, 0), nums(0, 1), nums(2, 3), make([]int64, n)...)
		for sinks := range int64(40) {
			checkWire(t, w, sinks, sinks == int64(n))
		}
		for _, sinks := range outside(n + 1) {
			checkWire(t, w, sinks, sinks == int64(n))
		}
	}
}

// valuesAround returns the extremes of int64 and all numbers near the limits of wires.
func valuesAround() []int64 {
	list := nums(math.MinInt64, math.MinInt64+1, -1<<32, math.MaxInt64, 1<<32, 1<<32+1, 1<<16, 1<<8, 501, 1000, 1001, 500, 499, 999)
	return append(list, numbersTo(-5, 12)...)
}

// checkElements puts values in the place of each element of a list of treeWire.
func checkElements(t *testing.T, list func(w impl.Wire) []int64, isValid func(i int, v int64) bool) {
	t.Helper()
	for i := range list(treeWire()) {
		for _, v := range valuesAround() {
			w := treeWire()
			list(w)[i] = v
			checkWire(t, w, 4, isValid(i, v))
		}
	}
}

func TestElementsOfWires(t *testing.T) {
	checkElements(t, func(w impl.Wire) []int64 { return w.Parent }, func(i int, v int64) bool {
		return i == 0 && v == -1 || i > 0 && 0 <= v && v < int64(i)
	})
	checkElements(t, func(w impl.Wire) []int64 { return w.Res }, func(i int, v int64) bool {
		return v == 0 || i > 0 && 0 <= v && v <= 1000
	})
	checkElements(t, func(w impl.Wire) []int64 { return w.Cap }, func(i int, v int64) bool {
		return 0 <= v && v <= 500
	})
	checkElements(t, func(w impl.Wire) []int64 { return w.Sink }, func(i int, v int64) bool {
		return 0 <= v && v < 5
	})
}

func TestLumpedWires(t *testing.T) {
	for _, sinks := range numbersTo(0, 100) {
		for _, load := range nums(0, 1, 5, 77, 499, 500) {
			want := wire(nums(-1), nums(0), nums(load), make([]int64, sinks)...)
			w, code := impl.LumpedWire(sinks, load)
			if code != impl.ErrNone || !sameWires(w, want) {
				t.Errorf("LumpedWire(%d, %d) = %+v, %d; want %+v", sinks, load, w, code, want)
			}
			checkWire(t, w, sinks, true)
		}
	}
}

func checkNoLumpedWire(t *testing.T, sinks, load int64) {
	t.Helper()
	if w, code := impl.LumpedWire(sinks, load); code != impl.ErrRange || !sameWires(w, impl.Wire{}) {
		t.Errorf("LumpedWire(%d, %d) = %+v, %d; want no wire and ErrRange", sinks, load, w, code)
	}
}

func TestNoLumpedWires(t *testing.T) {
	for _, good := range nums(0, 1, 50, 100) {
		for _, bad := range outside(101) {
			checkNoLumpedWire(t, bad, good)
		}
		for _, bad := range nums(-1, -2, 501, 502, 1000, 1<<16, 1<<32, 1<<32+1, -1<<32, math.MinInt64, math.MinInt64+1, math.MaxInt64) {
			checkNoLumpedWire(t, good, bad)
			checkNoLumpedWire(t, -1, bad)
			checkNoLumpedWire(t, bad, bad)
		}
		checkNoLumpedWire(t, 101, good)
	}
}
