package tests

import (
	"fmt"
	"slices"
	"testing"

	"loop.example/g00861/impl"
)

// No function of layer 9 writes into what it is given, and no answer shares memory.

// useGraph calls every function of layer 9 with a block and a list, and returns the lists that they
// answer.
func useGraph(b impl.Block, broken []int64, nodes []int64) []piece {
	links, _ := impl.LinksOf(b)
	order, _ := impl.TopologicalOrder(b, broken)
	pieces := []piece{pieceOf("links", links), pieceOf("order", order)}
	impl.NodeCount(b)
	for _, node := range nodes {
		impl.NodeText(b, node)
		for name, of := range nodeFunctions() {
			list, _ := of(b, broken, node)
			pieces = append(pieces, pieceOf(name, list))
		}
	}
	return pieces
}

func TestGraphsLeaveTheirArguments(t *testing.T) {
	samples := brokenBlocks()
	for _, block := range graphBlocks() {
		samples = append(samples, block.b)
	}
	for _, sample := range samples {
		b := cloneBlock(sample)
		before := memoryOfBlock(b)
		for _, list := range [][]int64{nil, {0}, {0, 1, 3}, {3, 1}, {2, 2}, {1000}} {
			broken := withSpare(list)
			useGraph(b, broken, nums(-1, 0, 1, 2, 3, 7, 1000))
			if !slices.Equal(broken, list) || !spareIsUnchanged(broken) {
				t.Errorf("%v has become %v", list, broken)
			}
		}
		if memoryOfBlock(b) != before {
			t.Errorf("%+v has become %+v", sample, b)
		}
	}
}

func TestAnswersOfGraphsHaveTheirOwnMemory(t *testing.T) {
	for _, block := range handBlocks() {
		b := cloneBlock(block.b)
		nodes := numbersTo(0, min(impl.NodeCount(b), 30)-1)
		for _, list := range [][]int64{nil, {0, 1}} {
			broken := withSpare(list)
			pieces := append(useGraph(b, broken, nodes), pieceOf("broken", broken))
			checkApart(t, fmt.Sprint(block.name, " without ", broken), append(pieces, piecesOfBlock(b)...))
		}
	}
}

// A call does not depend on those before it.
func TestGraphsKeepNoState(t *testing.T) {
	b, other := arcBlock(), ringBlock(3)
	first, _ := impl.TopologicalOrder(b, nums(20))
	impl.TopologicalOrder(other, nil)
	impl.FanOut(other, nums(1), 3)
	links, _ := impl.LinksOf(b)
	for i := range links {
		links[i] = impl.Link{From: -77}
	}
	want := slices.Clone(first)
	for i := range first {
		first[i] = -77
	}
	checkOrderIs(t, "arcs", b, nums(20), want...)
	checkLinks(t, "arcs", b, linksByChapter(b))
}
