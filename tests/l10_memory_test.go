package tests

import (
	"fmt"
	"slices"
	"testing"

	"loop.example/g00861/impl"
)

// No function of layer 10 writes into what it is given, and no answer shares memory.

// useLoops calls every function of layer 10 with a block and a list, and returns the lists that they
// answer.
func useLoops(b impl.Block, broken []int64, nodes []int64) []piece {
	loops, _ := impl.LoopsOf(b, broken)
	pieces := []piece{pieceOf("loops", loops)}
	for _, loop := range loops {
		pieces = append(pieces, pieceOf("a loop", loop))
	}
	impl.HasLoop(b, broken)
	list, _ := impl.BreakLoops(b)
	rest, _ := impl.RestoreLinks(b, broken)
	impl.IsMinimalBreak(b, broken)
	impl.LoopReport(b)
	for _, node := range nodes {
		path, _ := impl.LoopPath(b, broken, node)
		pieces = append(pieces, pieceOf("path", path))
	}
	return append(pieces, pieceOf("BreakLoops", list), pieceOf("RestoreLinks", rest))
}

func TestLoopsLeaveTheirArguments(t *testing.T) {
	blocks := loopBlocks()
	for i, b := range brokenBlocks() {
		blocks = append(blocks, wiredBlock{fmt.Sprint("invalid block ", i), b})
	}
	for _, block := range blocks {
		b := cloneBlock(block.b)
		before := memoryOfBlock(b)
		lists := [][]int64{nil, {0}, {0, 1, 3}, {3, 1}, {2, 2}, {1000}}
		if impl.IsBlock(b) {
			lists = append(lists, breaksByChapter(b), numbersTo(0, int64(len(linksByChapter(b))-1)))
		}
		for _, list := range lists {
			broken := withSpare(list)
			useLoops(b, broken, nums(-1, 0, 1, 2, 7, 1000))
			if !slices.Equal(broken, list) || !spareIsUnchanged(broken) {
				t.Errorf("%s: %v has become %v", block.name, list, broken)
			}
		}
		if memoryOfBlock(b) != before {
			t.Errorf("%s: %+v has become %+v", block.name, block.b, b)
		}
	}
}

func TestAnswersOfLoopsHaveTheirOwnMemory(t *testing.T) {
	for _, block := range append(loopBlocks(), wiredBlock{"full", fullBlock()}) {
		b := cloneBlock(block.b)
		nodes := numbersTo(0, min(impl.NodeCount(b), 20)-1)
		for _, list := range [][]int64{nil, {0, 1}, breaksByChapter(b), numbersTo(0, int64(len(linksByChapter(b))-1))} {
			broken := withSpare(list)
			if len(list) == 2 && len(linksByChapter(b)) < 2 {
				continue
			}
			pieces := append(useLoops(b, broken, nodes), pieceOf("broken", broken))
			checkApart(t, fmt.Sprint(block.name, " without ", broken), append(pieces, piecesOfBlock(b)...))
		}
	}
}

// A call does not depend on those before it, nor on what has become of their answers.
func TestLoopsKeepNoState(t *testing.T) {
	b, other := fallingBlock(), ringBlock(3)
	loops, _ := impl.LoopsOf(b, nil)
	list, _ := impl.BreakLoops(b)
	impl.BreakLoops(other)
	impl.RestoreLinks(other, nums(1, 2))
	want := slices.Clone(list)
	for _, answer := range append(loops, list) {
		for i := range answer {
			answer[i] = -77
		}
	}
	checkBroken(t, "falling", b, want...)
	checkLoops(t, "falling", b, nil, modelOf(b, nil).loops())
}
