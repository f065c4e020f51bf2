package tests

import (
	"fmt"
	"math"
	"testing"

	"loop.example/g00861/impl"
)

// The errors of layer 10 and their order.

// checkLoopErrors looks whether all functions with a list of broken links answer with a code, and
// LoopPath for some nodes as well.
func checkLoopErrors(t *testing.T, name string, b impl.Block, broken []int64, nodes []int64, want int64) {
	t.Helper()
	loops, code := impl.LoopsOf(b, broken)
	has, hasCode := impl.HasLoop(b, broken)
	isMinimal, minimalCode := impl.IsMinimalBreak(b, broken)
	checkNumbers(t, fmt.Sprintf("%s, the codes with %v", name, broken), nums(code, hasCode, minimalCode), want, want, want)
	if len(loops) != 0 || has || isMinimal {
		t.Errorf("%s: beside an error LoopsOf(%v), HasLoop and IsMinimalBreak give %v, %v, %v", name, broken, loops, has, isMinimal)
	}
	checkNoneRemaining(t, name, b, broken, want)
	for _, node := range nodes {
		checkNoLoopPath(t, name, b, broken, node, want)
	}
}

// A list that is none comes before a node that is not there, a loop that is left, and a node that
// belongs to no loop.
func TestLoopsWithWrongLists(t *testing.T) {
	for _, block := range loopBlocks() {
		for _, broken := range noBrokenLists(len(linksByChapter(block.b))) {
			checkLoopErrors(t, block.name, block.b, broken, nums(0, 7, -1, 1000, math.MinInt64, math.MaxInt64), impl.ErrRange)
		}
	}
}

// The last link may be broken, one beyond it may not.
func TestTheLastLinkOfLoops(t *testing.T) {
	b := ringBlock(1)
	checkLoops(t, "1 inverter", b, nums(3), nil)
	checkRemaining(t, "1 inverter", b, nums(3), 3)
	checkMinimal(t, "1 inverter", b, nums(3), true)
	checkNoLoopPath(t, "1 inverter", b, nums(3), 0, impl.ErrState)
	for _, broken := range [][]int64{{4}, {3, 4}, {3, 3}, {-1, 3}, {math.MinInt64}, {math.MaxInt64}, {0, 1, 2, 3, math.MaxInt64}} {
		checkLoopErrors(t, "1 inverter", b, broken, nums(0, 3, 4), impl.ErrRange)
	}
}

// The greatest link that there can be.
func TestTheLastLinkOfTheFullBlock(t *testing.T) {
	b := fullBlock()
	checkLoops(t, "full", b, nums(335), modelOf(b, nums(335)).loops())
	checkNoneRemaining(t, "full", b, nums(335), impl.ErrLoop)
	for _, broken := range [][]int64{{336}, {335, 336}, append(numbersTo(0, 335), 336)} {
		checkLoopErrors(t, "full", b, broken, nums(0, 155, 156), impl.ErrRange)
	}
}

// A block that is not valid comes before all other errors, and no function breaks its loops.
func TestLoopsOfInvalidBlocks(t *testing.T) {
	ringed := cloneBlock(ringBlock(2))
	ringed.Wires[1].Cap[0] = impl.MaxCap + 1
	unnamed := cloneBlock(fallingBlock())
	unnamed.Design.Nets[0] = ""
	for i, b := range append(brokenBlocks(), ringed, unnamed) {
		name := fmt.Sprint("invalid block ", i)
		for _, broken := range append(noBrokenLists(5), nil, nums(0), nums(0, 1, 2)) {
			checkLoopErrors(t, name, b, broken, nums(0, 1, 7, -1, 1000, math.MinInt64, math.MaxInt64), impl.ErrInvalid)
		}
		list, code := impl.BreakLoops(b)
		checkList(t, name+", BreakLoops", list, code, nil, impl.ErrInvalid)
		if text, code := impl.LoopReport(b); text != "" || code != impl.ErrInvalid {
			t.Errorf("%s: LoopReport gives %q, %d", name, text, code)
		}
	}
}

// A node that is not there comes before one that belongs to no loop, in blocks with and without loops.
func TestPathsOfNodesThatAreNotThere(t *testing.T) {
	for _, b := range []impl.Block{{}, backBlock(), ringBlock(2), betweenBlock()} {
		nodes := int64(len(nodesByChapter(b)))
		for _, node := range nums(-1, nodes, nodes+1, math.MinInt64, math.MaxInt64) {
			checkNoLoopPath(t, "no node", b, nil, node, impl.ErrNotFound)
			checkNoLoopPath(t, "no node", b, numbersTo(0, int64(len(linksByChapter(b))-1)), node, impl.ErrNotFound)
		}
	}
}
