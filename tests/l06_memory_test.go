package tests

import (
	"fmt"
	"testing"

	"loop.example/g00861/impl"
)

// No function of layer 6 writes into what it is given, and nothing that is read shares memory.

// useTexts calls every function of layer 6 with a block and the library and design of it.
func useTexts(b impl.Block) {
	l, d := b.Library, b.Design
	text := impl.DesignText(l, d)
	impl.ReadDesign(l, text)
	impl.ReadDesign(l, mixedText)
	impl.ReadBlock(l, impl.BlockText(b))
	impl.ReadBlock(l, mixedText)
	for i := range int64(17) {
		impl.InstanceText(l, d, i-1)
	}
	for _, name := range []string{"", "u1", "na", "o", "none"} {
		impl.InstanceNamed(d, name)
		impl.NetNamed(d, name)
		impl.PortNamed(d, name)
	}
}

// cloneBlock returns a copy of a block that shares no memory with it. Each list has an element in
// the capacity behind it.
func cloneBlock(b impl.Block) impl.Block {
	b.Library, b.Design = cloneDesign(b.Library, b.Design)
	b.Wires = cloneWith(b.Wires, wireFor(1, 1))
	for i, w := range b.Wires {
		b.Wires[i] = impl.Wire{Parent: withSpare(w.Parent), Res: withSpare(w.Res), Cap: withSpare(w.Cap), Sink: withSpare(w.Sink)}
	}
	return b
}

// memoryOfBlock returns all that is in the lists of a block and in the capacity behind them.
func memoryOfBlock(b impl.Block) string {
	text := memoryOfDesign(b.Library, b.Design) + fmt.Sprint(len(b.Wires))
	for _, w := range b.Wires[:cap(b.Wires)] {
		for _, list := range [][]int64{w.Parent, w.Res, w.Cap, w.Sink} {
			text += fmt.Sprint(len(list), list[:cap(list)])
		}
	}
	return text
}

func TestTextsOfBlocksLeaveTheirArguments(t *testing.T) {
	for _, sample := range append(sampleBlocks(), invalidBlocks()...) {
		b := cloneBlock(sample)
		before := memoryOfBlock(b)
		useTexts(b)
		if memoryOfBlock(b) != before {
			t.Errorf("%+v has become %+v", sample, b)
		}
	}
}

// piecesOfDesign returns all lists of a design.
func piecesOfDesign(d impl.Design) []piece {
	list := []piece{pieceOf("Instances", d.Instances), pieceOf("Nets", d.Nets), pieceOf("Ports", d.Ports)}
	for _, i := range d.Instances {
		list = append(list, pieceOf("Nets of "+i.Name, i.Nets))
	}
	return list
}

// piecesOfBlock returns all lists of a block.
func piecesOfBlock(b impl.Block) []piece {
	list := append(piecesOf(b.Library), piecesOfDesign(b.Design)...)
	list = append(list, pieceOf("Wires", b.Wires))
	for _, w := range b.Wires {
		list = append(list, pieceOf("Parent", w.Parent), pieceOf("Res", w.Res), pieceOf("Cap", w.Cap), pieceOf("Sink", w.Sink))
	}
	return list
}

// checkApart looks whether some of the lists share memory.
func checkApart(t *testing.T, name string, pieces []piece) {
	t.Helper()
	for i, a := range pieces {
		for _, b := range pieces[:i] {
			if a.start < b.end && b.start < a.end {
				t.Errorf("%s: %s and %s share memory", name, a.name, b.name)
			}
		}
	}
}

func TestDesignsThatAreReadHaveTheirOwnMemory(t *testing.T) {
	for _, c := range append(sampleDesigns(), smallDesigns()...) {
		text := textOfDesign(c.l, c.d)
		first, _ := impl.ReadDesign(c.l, text)
		second, _ := impl.ReadDesign(c.l, text)
		checkApart(t, c.name, append(piecesOfDesign(first), piecesOfDesign(second)...))
	}
}

func TestBlocksThatAreReadHaveTheirOwnMemory(t *testing.T) {
	for _, b := range sampleBlocks() {
		given := cloneBlock(b)
		first, _ := impl.ReadBlock(given.Library, textOfBlock(b))
		second, _ := impl.ReadBlock(given.Library, textOfBlock(b))
		pieces := append(piecesOfBlock(first), piecesOfBlock(second)...)
		checkApart(t, "a block", append(pieces, piecesOf(given.Library)...))
	}
}
