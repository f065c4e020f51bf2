package tests

import (
	"fmt"
	"math"
	"testing"

	"loop.example/g00861/impl"
)

// The errors of the functions of layer 9 with a list of broken links, and their order.

// brokenBlocks are blocks that are not valid: their library, their design or a wire.
func brokenBlocks() []impl.Block {
	list := invalidBlocks()
	for _, wrong := range wrongWires(branchBlock().Wires[3]) {
		b := branchBlock()
		b.Wires[3] = wrong
		list = append(list, b)
	}
	return list
}

// nodeFunctions are the functions with a list of broken links and a node.
func nodeFunctions() map[string]func(b impl.Block, broken []int64, node int64) ([]int64, int64) {
	return map[string]func(b impl.Block, broken []int64, node int64) ([]int64, int64){
		"LinksFrom": impl.LinksFrom,
		"LinksTo":   impl.LinksTo,
		"FanOut":    impl.FanOut,
		"FanIn":     impl.FanIn,
	}
}

// checkNodeError looks whether each of the functions with a node answers with a code.
func checkNodeError(t *testing.T, name string, b impl.Block, broken []int64, node, want int64) {
	t.Helper()
	for function, of := range nodeFunctions() {
		list, code := of(b, broken, node)
		checkList(t, fmt.Sprintf("%s, %s(%v, %d)", name, function, broken, node), list, code, nil, want)
	}
}

// checkOrderError looks whether TopologicalOrder answers with a code.
func checkOrderError(t *testing.T, name string, b impl.Block, broken []int64, want int64) {
	t.Helper()
	list, code := impl.TopologicalOrder(b, broken)
	checkList(t, fmt.Sprintf("%s, TopologicalOrder(%v)", name, broken), list, code, nil, want)
}

// noBrokenLists are lists that are no lists of broken links of a block with so many links.
func noBrokenLists(links int) [][]int64 {
	n := int64(links)
	list := [][]int64{{-1, 0}, {0, 0}, {1, 0}, {0, n}, {math.MinInt64, math.MaxInt64}, {-1, -1}, {n, n}, append(numbersTo(0, n-1), n)}
	for _, link := range outside(links) {
		list = append(list, nums(link))
	}
	if links < 3 {
		return list
	}
	return append(list, nums(0, 0), nums(n-1, n-1), nums(1, 0), nums(0, 2, 1), nums(0, 1, 1), nums(0, 0, 1), nums(n-1, 0), nums(0, 1, -1), append(numbersTo(0, n-1), n-1), append(numbersTo(1, n-1), 0))
}

func TestListsThatAreNotOfBrokenLinks(t *testing.T) {
	for _, block := range append(handBlocks(), wiredBlock{"zero", impl.Block{}}, wiredBlock{"longest", longestBlock()}) {
		for _, broken := range noBrokenLists(len(linksByChapter(block.b))) {
			checkOrderError(t, block.name, block.b, broken, impl.ErrRange)
			// A node that there is, and two that there are not.
			for _, node := range nums(0, -1, math.MaxInt64) {
				checkNodeError(t, block.name, block.b, broken, node, impl.ErrRange)
			}
		}
	}
}

// The same list is one of broken links up to the last link.
func TestTheLastLinkMayBeBroken(t *testing.T) {
	b := arcBlock()
	checkGraph(t, "arcs", b, nums(53))
	checkGraph(t, "arcs", b, nums(0, 53))
	checkNodeError(t, "arcs", b, nums(54), 0, impl.ErrRange)
	checkNodeError(t, "arcs", b, nums(53, 54), 0, impl.ErrRange)
}

func TestNodesThatAreNotThere(t *testing.T) {
	for _, block := range append(handBlocks(), wiredBlock{"zero", impl.Block{}}, wiredBlock{"longest", longestBlock()}) {
		links := len(linksByChapter(block.b))
		for _, node := range outside(len(nodesByChapter(block.b))) {
			checkNodeError(t, block.name, block.b, nil, node, impl.ErrNotFound)
			checkNodeError(t, block.name, block.b, numbersTo(0, int64(links)-1), node, impl.ErrNotFound)
		}
	}
}

// A block that is not valid comes before a list that is none, and this before a node that is not
// there.
func TestGraphsOfInvalidBlocks(t *testing.T) {
	for i, b := range brokenBlocks() {
		name := fmt.Sprint("invalid block ", i)
		for _, broken := range append(noBrokenLists(5), nil, nums(0), nums(0, 1, 2)) {
			checkOrderError(t, name, b, broken, impl.ErrInvalid)
			for _, node := range nums(0, 1, 7, -1, 1000, math.MinInt64, math.MaxInt64) {
				checkNodeError(t, name, b, broken, node, impl.ErrInvalid)
			}
		}
	}
}

// A list that is none comes before a loop.
func TestLoopsWithListsThatAreNone(t *testing.T) {
	b := ringBlock(2)
	checkOrderError(t, "ring", b, nums(8), impl.ErrRange)
	checkOrderError(t, "ring", b, nums(1, 1), impl.ErrRange)
	checkOrderError(t, "ring", b, nums(7), impl.ErrLoop)
}
