package tests

import (
	"testing"
	"unsafe"

	"loop.example/g00861/impl"
)

// No function of layer 4 writes into what it is given, and no library that is read shares memory.

func TestTextsLeaveTheirArguments(t *testing.T) {
	for _, sample := range append(validCells(), invalidCells()...) {
		cells := cloneWith([]impl.Cell{cloneCell(sample)}, cloneCell(inverter()))
		given, behind := memoryOf(cells[0]), memoryOf(cells[:2][1])
		l := impl.Library{Cells: cells}
		impl.CellText(cells[0])
		impl.LibraryText(l)
		impl.CellDigest(cells[0])
		impl.SameLibrary(l, library(plainLatch()))
		impl.SameLibrary(library(plainLatch()), l)
		for i := range int64(impl.MaxArcs + 2) {
			impl.ArcText(cells[0], i-1)
		}
		impl.ReadLibrary(impl.LibraryText(l))
		if memoryOf(cells[0]) != given || memoryOf(cells[:2][1]) != behind {
			t.Errorf("%v has become %v", sample, cells[0])
		}
	}
}

// piece is where a list is in the memory, with the capacity behind it. It holds the list, whose
// memory could be given to another one otherwise.
type piece struct {
	name       string
	start, end uintptr
	list       any
}

func pieceOf[E any](name string, list []E) piece {
	start := uintptr(unsafe.Pointer(unsafe.SliceData(list)))
	return piece{name, start, start + uintptr(cap(list))*unsafe.Sizeof(*new(E)), list}
}

// piecesOf returns all lists of a library.
func piecesOf(l impl.Library) []piece {
	list := []piece{pieceOf("Cells", l.Cells)}
	for _, c := range l.Cells {
		list = append(list, pieceOf("Pins", c.Pins), pieceOf("Arcs", c.Arcs), pieceOf("Truth", c.Truth))
		for _, a := range c.Arcs {
			list = append(list, pieceOf("Delay", a.Delay), pieceOf("Slew", a.Slew))
			for _, tables := range [][]impl.Table{a.Delay, a.Slew} {
				for _, t := range tables {
					list = append(list, pieceOf("Slews", t.Slews), pieceOf("Loads", t.Loads), pieceOf("Values", t.Values))
				}
			}
		}
	}
	return list
}

func TestLibrariesHaveTheirOwnMemory(t *testing.T) {
	for _, l := range append(sampleLibraries(), numbered(impl.MaxCells)) {
		text := impl.LibraryText(l)
		first, _, _ := impl.ReadLibrary(text)
		second, _, _ := impl.ReadLibrary(text)
		pieces := append(piecesOf(first), piecesOf(second)...)
		for i, a := range pieces {
			for _, b := range pieces[:i] {
				if a.start < b.end && b.start < a.end {
					t.Errorf("in a library of %d cells %s and %s share memory", len(l.Cells), a.name, b.name)
				}
			}
		}
	}
}
