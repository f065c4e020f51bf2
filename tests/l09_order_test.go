package tests

import (
	"fmt"
	"slices"
	"testing"

	"loop.example/g00861/impl"
)

// The topological order.

// checkOrderIs compares TopologicalOrder with an order.
func checkOrderIs(t *testing.T, name string, b impl.Block, broken []int64, want ...int64) {
	t.Helper()
	got, code := impl.TopologicalOrder(b, broken)
	checkList(t, fmt.Sprint(name, " without ", broken), got, code, want, impl.ErrNone)
}

// checkLoop looks whether TopologicalOrder finds a loop or, if there is to be none, an order.
func checkLoop(t *testing.T, name string, b impl.Block, broken []int64, want bool) {
	t.Helper()
	got, code := impl.TopologicalOrder(b, broken)
	switch {
	case want && (code != impl.ErrLoop || len(got) != 0):
		t.Errorf("%s without %v: the order is %v, %d; want a loop", name, broken, got, code)
	case !want && (code != impl.ErrNone || int64(len(got)) != impl.NodeCount(b)):
		t.Errorf("%s without %v: the order is %v, %d; want one of all nodes", name, broken, got, code)
	}
}

func TestOrdersOfSmallBlocks(t *testing.T) {
	checkOrderIs(t, "zero", impl.Block{}, nil)
	checkOrderIs(t, "no design", impl.Block{Library: arcLibrary()}, []int64{})
	checkOrderIs(t, "ports", blockFrom(designCase{"", impl.Library{}, ports(2, 1)}), nil, 0, 1, 2, 3, 4, 5)
	last := impl.Design{Nets: []string{"n"}, Ports: []impl.Port{outPort("o", 0), inPort("i", 0), outPort("p", 0)}}
	checkOrderIs(t, "a port that drives a smaller one", blockFrom(designCase{"", impl.Library{}, last}), nil, 2, 0, 3, 1, 4, 5)
}

// A node that has just become ready comes before greater ones that wait: 4 before 9, and then 0.
func TestTheSmallestNodeComesNext(t *testing.T) {
	b := backBlock()
	checkOrderIs(t, "back", b, nil, 8, 4, 7, 1, 2, 9, 5, 6, 0, 3, 10, 11)
	checkOrderIs(t, "back", b, numbersTo(0, 9), numbersTo(0, 11)...)
	checkOrderIs(t, "back", b, nums(6, 7), 0, 1, 2, 3, 8, 4, 7, 9, 5, 6, 10, 11)
	checkOrderIs(t, "back", b, nums(0), 3, 8, 4, 7, 1, 2, 9, 5, 6, 0, 10, 11)
	checkOrderIs(t, "back", b, nums(4, 8), 4, 7, 1, 2, 8, 9, 5, 6, 0, 3, 10, 11)
}

// A node comes only after all nodes from which links lead to it: the output of the gate after both
// of its inputs.
func TestNodesWaitForAllLinks(t *testing.T) {
	b := forkBlock()
	checkOrderIs(t, "fork", b, nil, 10, 0, 6, 8, 2, 4, 11, 1, 7, 9, 3, 5, 12, 13, 14, 15, 16, 17)
}

func TestOrdersOfLoops(t *testing.T) {
	for n := 1; n <= 14; n++ {
		b := ringBlock(n)
		checkLoop(t, fmt.Sprint("ring of ", n), b, nil, true)
		checkLoop(t, fmt.Sprint("ring of ", n), b, numbersTo(0, int64(len(linksByChapter(b)))-1), false)
	}
	for cell, loops := range map[int64]bool{mixCell: true, riseCell: false, fallCell: false} {
		for pin := range 3 {
			// The pin 1 of the flops is the clock pin, from which their links lead.
			checkLoop(t, fmt.Sprintf("cell %d with its pin %d", cell, pin), fedBackBlock(cell, pin), nil, loops || pin == 1)
		}
	}
	for pin := range 3 {
		checkLoop(t, fmt.Sprint("latch with its pin ", pin), fedBackBlock(heldCell, pin), nil, true)
	}
}

// The loops of two inverters in a ring are 0, 7, 3, 4 and 1, 6, 2, 5.
func TestBrokenLinksCutLoops(t *testing.T) {
	one, two := ringBlock(1), ringBlock(2)
	for link := range int64(4) {
		checkLoop(t, "ring of 1", one, nums(link), false)
	}
	first, second := nums(0, 3, 4, 7), nums(1, 2, 5, 6)
	for a := range int64(8) {
		checkLoop(t, "ring of 2", two, nums(a), true)
		for b := a + 1; b < 8; b++ {
			cut := slices.Contains(first, a) != slices.Contains(first, b)
			checkLoop(t, "ring of 2", two, nums(a, b), !cut)
		}
	}
	checkLoop(t, "ring of 2", two, first, true)
	checkLoop(t, "ring of 2", two, second, true)
	checkOrderIs(t, "ring of 2", two, nums(0, 1), 2, 3, 4, 5, 6, 0, 7, 1)
}

// Nodes that are not on a loop do not help: no order of a part is given.
func TestLoopsBesideOtherNodes(t *testing.T) {
	b := arcBlock()
	checkLoop(t, "arcs", b, nil, true)
	// The links 20, 21, 46 and 47 are those of the inverter i2.
	for link := range int64(54) {
		checkLoop(t, "arcs", b, nums(link), link != 20 && link != 21 && link != 46 && link != 47)
	}
	rest := slices.DeleteFunc(numbersTo(0, 53), func(link int64) bool { return slices.Contains(nums(20, 21, 46, 47), link) })
	checkLoop(t, "the loop of arcs", b, rest, true)
}

func TestOrdersOfBlocks(t *testing.T) {
	loops, orders := 0, 0
	for _, block := range graphBlocks() {
		for _, broken := range brokenLists(len(linksByChapter(block.b))) {
			m := modelOf(block.b, broken)
			checkOrder(t, fmt.Sprint(block.name, " without ", broken), block.b, broken, m)
			if m.hasLoop() {
				loops++
			} else {
				orders++
			}
		}
	}
	if loops < 100 || orders < 100 {
		t.Errorf("only %d loops and %d orders", loops, orders)
	}
}

// Promise 8: every live link leads from an earlier to a later node of the order, in which every node
// is once, and there is an order exactly if live links lead from no node back to it.
func TestLinksLeadForward(t *testing.T) {
	for _, block := range handBlocks() {
		links, _ := impl.LinksOf(block.b)
		for _, broken := range brokenLists(len(links)) {
			name := fmt.Sprint(block.name, " without ", broken)
			order, code := impl.TopologicalOrder(block.b, broken)
			if leadsBack(links, broken, impl.NodeCount(block.b)) {
				checkList(t, name+", with a loop", order, code, nil, impl.ErrLoop)
				continue
			}
			sorted := slices.Sorted(slices.Values(order))
			checkList(t, name+", sorted", sorted, code, numbersTo(0, impl.NodeCount(block.b)-1), impl.ErrNone)
			for i, link := range links {
				if !slices.Contains(broken, int64(i)) && slices.Index(order, link.From) >= slices.Index(order, link.To) {
					t.Errorf("%s: the link %d leads back in %v", name, i, order)
				}
			}
		}
	}
}

// leadsBack reports whether live links lead from one of the nodes back to it.
func leadsBack(links []impl.Link, broken []int64, nodes int64) bool {
	for start := range nodes {
		seen := map[int64]bool{}
		var follow func(node int64)
		follow = func(node int64) {
			for i, link := range links {
				if link.From == node && !slices.Contains(broken, int64(i)) && !seen[link.To] {
					seen[link.To] = true
					follow(link.To)
				}
			}
		}
		follow(start)
		if seen[start] {
			return true
		}
	}
	return false
}
