package tests

import (
	"slices"
	"strconv"
	"testing"

	"loop.example/g00861/impl"
)

// The validity of blocks.

func checkBlock(t *testing.T, name string, b impl.Block, want bool) {
	t.Helper()
	if impl.IsBlock(b) != want {
		t.Errorf("%s: IsBlock(%+v) is not %v", name, b, want)
	}
}

func TestValidBlocks(t *testing.T) {
	checkBlock(t, "zero", impl.Block{}, true)
	checkBlock(t, "empty lists", impl.Block{Wires: []impl.Wire{}, Design: impl.Design{Nets: []string{}}}, true)
	checkBlock(t, "longest", longestBlock(), true)
	for n := range impl.MaxCells + 1 {
		checkBlock(t, "no design of "+strconv.Itoa(n)+" cells", impl.Block{Library: numbered(n)}, true)
	}
	for i, b := range sampleBlocks() {
		checkBlock(t, "sample "+strconv.Itoa(i), b, true)
	}
	for _, block := range wiredBlocks() {
		checkBlock(t, block.name, block.b, true)
	}
}

func TestInvalidBlocks(t *testing.T) {
	for i, b := range invalidBlocks() {
		checkBlock(t, "invalid block "+strconv.Itoa(i), b, false)
	}
	for _, l := range invalidLibraries() {
		checkBlock(t, "an invalid library", impl.Block{Library: l}, false)
	}
	one := wire(nums(-1), nums(0), nums(0))
	for _, c := range invalidDesigns() {
		checkBlock(t, c.name, impl.Block{Library: c.l, Design: c.d}, false)
		bare := slices.Repeat([]impl.Wire{one}, len(c.d.Nets))
		checkBlock(t, c.name+" with wires without sinks", impl.Block{Library: c.l, Design: c.d, Wires: bare}, false)
	}
	checkBlock(t, "a wire without a net", impl.Block{Wires: []impl.Wire{one}}, false)
	checkBlock(t, "no wire", impl.Block{Wires: []impl.Wire{{}}}, false)
}

// Each design of designChanges with as many wires as it has nets, whose wires fit the design that
// was changed.
func TestBlocksOfChangedDesigns(t *testing.T) {
	for name, change := range designChanges() {
		b := blockFrom(designCase{"mixed design", pinLibrary(), mixedDesign()})
		change(&b.Library, &b.Design)
		checkBlock(t, name, b, false)
		for len(b.Wires) < len(b.Design.Nets) {
			b.Wires = append(b.Wires, wireFor(0, 0))
		}
		checkBlock(t, name, impl.Block{Library: b.Library, Design: b.Design, Wires: b.Wires[:len(b.Design.Nets)]}, false)
	}
}

// A block needs a wire for each net, valid for the sinks of this net.
func TestWiresOfBlocks(t *testing.T) {
	for _, block := range wiredBlocks() {
		b := block.b
		for net, w := range b.Wires {
			without := slices.Delete(slices.Clone(b.Wires), net, net+1)
			checkBlock(t, block.name+", a wire too few", impl.Block{Library: b.Library, Design: b.Design, Wires: without}, false)
			with := slices.Insert(slices.Clone(b.Wires), net, w)
			checkBlock(t, block.name+", a wire too many", impl.Block{Library: b.Library, Design: b.Design, Wires: with}, false)
			for _, wrong := range wrongWires(w) {
				wires := slices.Clone(b.Wires)
				wires[net] = wrong
				checkBlock(t, block.name+", a wrong wire", impl.Block{Library: b.Library, Design: b.Design, Wires: wires}, false)
			}
		}
	}
}

// wrongWires returns wires that are not valid in the place of a wire.
func wrongWires(w impl.Wire) []impl.Wire {
	more, fewer, outside, parent := w, w, w, w
	more.Sink = append(slices.Clone(w.Sink), 0)
	outside.Cap = append(slices.Clone(w.Cap[1:]), impl.MaxCap+1)
	parent.Parent = append(slices.Clone(w.Parent[1:]), int64(len(w.Parent)))
	list := []impl.Wire{{}, {Sink: w.Sink}, more, outside, parent}
	if len(w.Sink) > 0 {
		fewer.Sink = w.Sink[1:]
		list = append(list, fewer)
	}
	return list
}
