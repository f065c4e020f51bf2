package tests

import (
	"fmt"
	"math"
	"testing"

	"loop.example/g00861/impl"
)

// The errors of the functions of layer 7 with a block and a net, and their order.

// checkErrors looks whether each of the functions with a block and a net answers with a code, for
// arguments that are right beside the block and the net.
func checkErrors(t *testing.T, name string, b impl.Block, net, want int64) {
	t.Helper()
	name += fmt.Sprint(", net ", net)
	list, code := impl.NodeLoads(b, net)
	checkList(t, name+", NodeLoads", list, code, nil, want)
	load, code := impl.NetLoad(b, net)
	checkList(t, name+", NetLoad", nums(load), code, nums(0), want)
	list, code = impl.NodeDelays(b, net)
	checkList(t, name+", NodeDelays", list, code, nil, want)
	for _, mode := range nums(impl.Early, impl.Late) {
		checkSinkErrors(t, b, net, 0, 3, mode, want)
	}
}

// checkSinkErrors looks whether the functions of sinks answer with a code.
func checkSinkErrors(t *testing.T, b impl.Block, net, sink, slew, mode, want int64) {
	t.Helper()
	list, code := impl.SinkDelays(b, net, mode)
	checkList(t, fmt.Sprintf("SinkDelays(%d, %d)", net, mode), list, code, nil, want)
	checkNoSlew(t, b, net, sink, slew, mode, want)
}

// noModes are numbers that are no mode.
func noModes() []int64 {
	return nums(-1, 2, 3, 100, 1<<8, 1<<32, 1<<32+1, math.MinInt64, math.MinInt64+1, math.MaxInt64)
}

func TestFunctionsOfNetsThatAreNotThere(t *testing.T) {
	blocks := append(wiredBlocks(), wiredBlock{"zero", impl.Block{}}, wiredBlock{"no design", impl.Block{Library: pinLibrary()}}, wiredBlock{"longest", longestBlock()})
	for _, block := range blocks {
		for _, net := range outside(len(block.b.Wires)) {
			checkErrors(t, block.name, block.b, net, impl.ErrRange)
			for _, mode := range noModes() {
				checkSinkErrors(t, block.b, net, -1, -1, mode, impl.ErrRange)
			}
		}
	}
}

func TestModesThatAreNone(t *testing.T) {
	for _, b := range []impl.Block{branchBlock(), lineBlock(500)} {
		for net, w := range b.Wires {
			for _, mode := range noModes() {
				for sink := range int64(len(w.Sink) + 1) {
					checkSinkErrors(t, b, int64(net), sink, 3, mode, impl.ErrRange)
					checkSinkErrors(t, b, int64(net), sink-1, -1, mode, impl.ErrRange)
				}
			}
		}
	}
}

// A block that is not valid comes before a net that is not there, and both before a mode that is
// none.
func TestFunctionsOfInvalidBlocks(t *testing.T) {
	blocks := invalidBlocks()
	for _, wrong := range wrongWires(branchBlock().Wires[3]) {
		b := branchBlock()
		b.Wires[3] = wrong
		blocks = append(blocks, b)
	}
	for i, b := range blocks {
		name := fmt.Sprint("invalid block ", i)
		for _, net := range append(outside(len(b.Design.Nets)), numbersTo(0, 7)...) {
			checkErrors(t, name, b, net, impl.ErrInvalid)
			checkSinkErrors(t, b, net, 0, 3, 2, impl.ErrInvalid)
			checkSinkErrors(t, b, net, -1, -1, math.MaxInt64, impl.ErrInvalid)
		}
	}
}
