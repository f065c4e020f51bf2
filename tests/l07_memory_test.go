package tests

import (
	"fmt"
	"testing"

	"loop.example/g00861/impl"
)

// No function of layer 7 writes into what it is given, and no answer shares memory.

// useWires calls every function of layer 7 with a block and its wires, and returns the lists that
// they answer.
func useWires(b impl.Block) []piece {
	var list []piece
	impl.IsBlock(b)
	for net := range int64(len(b.Wires) + 2) {
		loads, _ := impl.NodeLoads(b, net-1)
		delays, _ := impl.NodeDelays(b, net-1)
		list = append(list, pieceOf("NodeLoads", loads), pieceOf("NodeDelays", delays))
		impl.NetLoad(b, net-1)
		for mode := range int64(3) {
			sinks, _ := impl.SinkDelays(b, net-1, mode)
			list = append(list, pieceOf("SinkDelays", sinks))
			for sink := range int64(4) {
				impl.SinkSlew(b, net-1, sink-1, 40, mode)
			}
		}
	}
	for _, w := range b.Wires {
		for _, sinks := range nums(int64(len(w.Sink)), 1) {
			impl.IsWire(w, sinks)
			text := impl.WireText(w, sinks)
			read, _ := impl.ReadWire(text, sinks)
			list = append(list, piecesOfWire(read)...)
		}
	}
	return list
}

func piecesOfWire(w impl.Wire) []piece {
	return []piece{pieceOf("Parent", w.Parent), pieceOf("Res", w.Res), pieceOf("Cap", w.Cap), pieceOf("Sink", w.Sink)}
}

func TestBlocksAreNotChanged(t *testing.T) {
	samples := append(sampleBlocks(), invalidBlocks()...)
	for _, block := range wiredBlocks() {
		samples = append(samples, block.b)
	}
	for _, sample := range append(samples, branchBlock(), longestBlock()) {
		b := cloneBlock(sample)
		before := memoryOfBlock(b)
		useWires(b)
		if memoryOfBlock(b) != before {
			t.Errorf("%+v has become %+v", sample, b)
		}
	}
}

func TestAnswersHaveTheirOwnMemory(t *testing.T) {
	for i, sample := range append(sampleBlocks(), branchBlock(), longestBlock()) {
		b := cloneBlock(sample)
		checkApart(t, fmt.Sprint("block ", i), append(useWires(b), piecesOfBlock(b)...))
	}
}

func TestWiresHaveTheirOwnMemory(t *testing.T) {
	for sinks := range int64(101) {
		first, _ := impl.LumpedWire(sinks, 7)
		second, _ := impl.LumpedWire(sinks, 7)
		text := impl.WireText(first, sinks)
		third, _ := impl.ReadWire(text, sinks)
		fourth, _ := impl.ReadWire(text, sinks)
		pieces := append(piecesOfWire(first), piecesOfWire(second)...)
		checkApart(t, text, append(append(pieces, piecesOfWire(third)...), piecesOfWire(fourth)...))
	}
}
