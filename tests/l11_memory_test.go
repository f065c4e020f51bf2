package tests

import (
	"fmt"
	"slices"
	"testing"

	"loop.example/g00861/impl"
)

// No function of layer 11 writes into what it is given or keeps anything. Its answers have no lists.

// useDelays calls every function of layer 11 that has a block.
func useDelays(b impl.Block, c impl.Corner, links []int64) {
	for _, n := range nums(-1, 0, 1, 2, 7, 1000) {
		for _, mode := range nums(impl.Early, impl.Late, 2) {
			impl.LinkDelay(b, c, n, 5*n, mode)
			impl.LinkSlew(b, n, 5*n, mode)
			impl.CheckTime(b, n, mode, mode, n, n)
			impl.StageDelay(b, c, links, n, mode)
		}
		impl.LinkDelayBounds(b, c, n)
	}
}

func TestDelaysLeaveTheirArguments(t *testing.T) {
	blocks := append(tabledBlocks(), wiredBlock{"held", heldBlock()})
	for i, b := range brokenBlocks() {
		blocks = append(blocks, wiredBlock{fmt.Sprint("invalid block ", i), b})
	}
	for _, block := range blocks {
		b := cloneBlock(block.b)
		before := memoryOfBlock(b)
		for _, list := range [][]int64{nil, {0}, {1, 4, 2}, {3, 1}, {0, 0}, {1000}} {
			links := withSpare(list)
			useDelays(b, spreadCorner(), links)
			if !slices.Equal(links, list) || !spareIsUnchanged(links) {
				t.Errorf("%s: %v has become %v", block.name, list, links)
			}
		}
		if memoryOfBlock(b) != before {
			t.Errorf("%s: %+v has become %+v", block.name, block.b, b)
		}
	}
}

// A call does not depend on those before it.
func TestDelaysKeepNoState(t *testing.T) {
	b, other := rampBlock(), tabled(rampBlock(), 8)
	rising := link(t, b, "u1/i0:f u1/y:r")
	for range 2 {
		useDelays(other, corner(100, 5000, 100, 5000), nums(0))
		checkLinkDelay(t, "ramp", b, spreadCorner(), rising, 1, impl.Late, 19, impl.ErrNone)
		checkBounds(t, "ramp", b, plainCorner(), rising, span(14, 36), impl.ErrNone)
	}
	b.Library.Cells[0].Arcs[0].Delay[impl.Rise].Values[0] = 30
	checkLinkDelay(t, "another ramp", b, plainCorner(), rising, 0, impl.Late, 26, impl.ErrNone)
	b.Wires[1].Cap[0] = 3
	checkLinkDelay(t, "another load", b, plainCorner(), rising, 0, impl.Late, 24, impl.ErrNone)
}
