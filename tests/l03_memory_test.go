package tests

import (
	"slices"
	"testing"

	"loop.example/g00861/impl"
)

// useCell calls every function of layer 3 with a cell.
func useCell(l impl.Library, c impl.Cell, inputs []int64) {
	impl.IsCell(c)
	impl.IsLibrary(l)
	impl.CellNamed(l, c.Name)
	impl.PinNamed(c, "q")
	impl.ClockPin(c)
	impl.ArcsTo(c, int64(len(c.Pins))-1, impl.ArcComb)
	impl.GateValue(c, inputs)
	impl.SenseOf(c, 0)
	impl.IsConsistent(c)
}

func TestCellsAreNotChanged(t *testing.T) {
	for _, sample := range append(validCells(), invalidCells()...) {
		cells := cloneWith([]impl.Cell{cloneCell(sample)}, cloneCell(inverter()))
		l := impl.Library{Cells: cells}
		inputs := withSpare(make([]int64, max(len(sample.Pins), 1)-1))
		given, behind := memoryOf(cells[0]), memoryOf(cells[:2][1])
		useCell(l, cells[0], inputs)
		if memoryOf(cells[0]) != given || memoryOf(cells[:2][1]) != behind {
			t.Errorf("%v has become %v", sample, cells[0])
		}
		if !slices.Equal(inputs, make([]int64, len(inputs))) || !spareIsUnchanged(inputs) {
			t.Errorf("inputs have become %v", inputs)
		}
	}
}

func TestArcsToHasItsOwnMemory(t *testing.T) {
	for _, sample := range validCells() {
		c := cloneCell(sample)
		before := memoryOf(c)
		for _, a := range sample.Arcs {
			first := impl.ArcsTo(c, a.To, a.Kind)
			second := impl.ArcsTo(c, a.To, a.Kind)
			want := slices.Clone(second)
			full := first[:cap(first)]
			for i := range full {
				full[i] -= 1000003
			}
			if !slices.Equal(second, want) || !slices.Equal(impl.ArcsTo(c, a.To, a.Kind), want) || memoryOf(c) != before {
				t.Errorf("%s: ArcsTo(%d, %d) shares its memory", c.Name, a.To, a.Kind)
			}
		}
	}
}
