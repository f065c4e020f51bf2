package tests

import (
	"fmt"
	"testing"

	"loop.example/g00861/impl"
)

// No function of layer 8 writes into what it is given, and no answer shares memory.

// cloneEdits returns copies of edits that share no memory with them. Each list has an element in the
// capacity behind it.
func cloneEdits(list []impl.Edit) []impl.Edit {
	list = cloneWith(list, swap(-77, -77))
	for i, e := range list {
		list[i].Wire = impl.Wire{Parent: withSpare(e.Wire.Parent), Res: withSpare(e.Wire.Res), Cap: withSpare(e.Wire.Cap), Sink: withSpare(e.Wire.Sink)}
	}
	return list
}

// memoryOfEdits returns all that is in edits and in the capacity behind their lists.
func memoryOfEdits(list []impl.Edit) string {
	text := fmt.Sprint(len(list))
	for _, e := range list[:cap(list)] {
		text += fmt.Sprint(e.Kind, e.Place, e.Cell, e.Net, e.Node, e.Name)
		for _, list := range [][]int64{e.Wire.Parent, e.Wire.Res, e.Wire.Cap, e.Wire.Sink} {
			text += fmt.Sprint(len(list), list[:cap(list)])
		}
	}
	return text
}

func piecesOfEdits(list []impl.Edit) []piece {
	pieces := []piece{pieceOf("edits", list)}
	for _, e := range list {
		pieces = append(pieces, piecesOfWire(e.Wire)...)
	}
	return pieces
}

// useEdits calls every function of layer 8 with a block and edits, and returns the lists that they
// answer.
func useEdits(b impl.Block, list []impl.Edit) []piece {
	var pieces []piece
	for _, e := range list {
		impl.EditCode(b, e)
		after, _ := impl.ApplyEdit(b, e)
		back, _ := impl.InverseEdit(b, e)
		nets, _ := impl.TouchedNets(b, e)
		read, _ := impl.ReadEdit(b, impl.EditText(b, e))
		pieces = append(pieces, piecesOfBlock(after)...)
		pieces = append(pieces, piecesOfEdits([]impl.Edit{back, read})...)
		pieces = append(pieces, pieceOf("nets", nets))
	}
	after, _, _ := impl.ApplyEdits(b, list)
	back, _ := impl.InverseEdits(b, list)
	return append(append(pieces, piecesOfBlock(after)...), piecesOfEdits(back)...)
}

// usedEdits are edits of which the wires of some are given to other ones, and that are possible one
// after the other in the block of the buffer.
func usedEdits() []impl.Edit {
	thin := wire(nums(-1, 0), nums(0, 1), nums(4, 5), 1)
	return []impl.Edit{
		rewire(0, thin), rewire(1, thin), rewire(0, wire(nums(-1), nums(0), nums(0), 0)), unbuffer(), buffer(0, invGate, "new"), buffer(2, invGate, "next"),
		swap(1, bigGate), move(0, 1, 0), rewire(3, wire(nums(-1), nums(0), nums(7), 0)), rewire(3, wire(nums(-1), nums(0), nums(8), 0)),
	}
}

func TestBlocksAndEditsAreNotChanged(t *testing.T) {
	blocks := append(invalidBlocks(), ringBlock(14))
	for _, block := range editBlocks() {
		blocks = append(blocks, block.b)
	}
	for i, sample := range blocks {
		for _, n := range []int{0, 6, len(usedEdits())} {
			b, list := cloneBlock(sample), cloneEdits(usedEdits()[:n])
			before, edits := memoryOfBlock(b), memoryOfEdits(list)
			useEdits(b, list)
			if memoryOfBlock(b) != before || memoryOfEdits(list) != edits {
				t.Errorf("block %d: %+v and %+v have become %+v and %+v", i, sample, usedEdits()[:n], b, list)
			}
		}
	}
}

// The answers for a block and their own inverses share no memory with each other, nor with the
// block and the edits.
func TestAnswersOfEditsHaveTheirOwnMemory(t *testing.T) {
	for _, block := range []wiredBlock{{"buffer", bufferBlock()}, {"switch", switchBlock()}, {"one inverter", ringBlock(1)}} {
		b, list := cloneBlock(block.b), cloneEdits(usedEdits())
		if block.name == "buffer" {
			if _, code, at := impl.ApplyEdits(b, list); code != impl.ErrNone {
				t.Fatalf("the edit %d is not possible: %d", at, code)
			}
		}
		for _, n := range []int{1, 3, 4, 6, len(list)} {
			pieces := append(useEdits(b, list[:n]), piecesOfBlock(b)...)
			checkApart(t, block.name, append(pieces, piecesOfEdits(list)...))
		}
	}
	// No edit at all gives a block of its own, too.
	for _, block := range editBlocks() {
		b := cloneBlock(block.b)
		checkApart(t, block.name, append(useEdits(b, nil), piecesOfBlock(b)...))
	}
}
