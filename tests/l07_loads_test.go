package tests

import (
	"fmt"
	"slices"
	"testing"

	"loop.example/g00861/impl"
)

// Promise 6: the load of a driver is the sum of all capacitances, and greater resistances or
// capacitances never make a wire faster. And the values of loads and delays.

// checkNet compares the loads and delays of the wire of a net with what they must be.
func checkNet(t *testing.T, name string, b impl.Block, net int64, loads, delays []int64) {
	t.Helper()
	name += ", net " + fmt.Sprint(net)
	got, code := impl.NodeLoads(b, net)
	checkList(t, name+", NodeLoads", got, code, loads, impl.ErrNone)
	load, code := impl.NetLoad(b, net)
	checkList(t, name+", NetLoad", nums(load), code, loads[:1], impl.ErrNone)
	got, code = impl.NodeDelays(b, net)
	checkList(t, name+", NodeDelays", got, code, delays, impl.ErrNone)
}

// branchBlock returns mixedDesign with a wire of several nodes for each net that has sinks.
func branchBlock() impl.Block {
	return impl.Block{Library: pinLibrary(), Design: mixedDesign(), Wires: []impl.Wire{
		// The sinks ff/ck (11), lat/g (29) and the port u1 (0), all at the node 0.
		wire(nums(-1, 0), nums(0, 100), nums(7, 30), 0, 0, 0),
		// The sinks u1/i0 (3), and lat/a (31) and lat/b (37) at one node.
		wire(nums(-1, 0, 0, 2), nums(0, 10, 20, 30), nums(1, 2, 4, 8), 1, 3, 3),
		// The sink ff/d0 (7), at the end of a chain.
		wire(nums(-1, 0, 1), nums(0, 1000, 1), nums(500, 0, 0), 2),
		// The sinks ff/d1 (13), u3/i0 (5) and the port o (0), at the ends of a star.
		wire(nums(-1, 0, 0, 0), nums(0, 1, 0, 1000), nums(0, 1, 2, 3), 3, 2, 1),
		// The sink lat/c (500), between nodes.
		wire(nums(-1, 0, 1, 1), nums(0, 2, 3, 4), nums(0, 10, 100, 1), 1),
		// The sink u3/i1 (0).
		wire(nums(-1), nums(0), nums(9), 0),
		// No sink.
		wire(nums(-1, 0), nums(0, 5), nums(6, 7)),
	}}
}

func TestLoadsAndDelaysOfBranches(t *testing.T) {
	b := branchBlock()
	checkNet(t, "branches", b, 0, nums(77, 30), nums(0, 3000))
	checkNet(t, "branches", b, 1, nums(86, 5, 80, 76), nums(0, 50, 1600, 3880))
	checkNet(t, "branches", b, 2, nums(507, 7, 7), nums(0, 7000, 7007))
	checkNet(t, "branches", b, 3, nums(24, 1, 7, 16), nums(0, 1, 0, 16000))
	checkNet(t, "branches", b, 4, nums(611, 611, 100, 1), nums(0, 1222, 1522, 1226))
	checkNet(t, "branches", b, 5, nums(9), nums(0))
	checkNet(t, "branches", b, 6, nums(13, 7), nums(0, 35))
}

func TestLoadsAndDelaysOfTheLongestWire(t *testing.T) {
	loads := nums(32000, 31500, 31000, 30500, 30000, 29500, 29000, 28500)
	delays := nums(0, 31500000, 62500000, 93000000, 123000000, 152500000, 181500000, 210000000)
	checkNet(t, "longest", longestBlock(), 0, loads, delays)
	checkNet(t, "longest", longestBlock(), 14, nums(0), nums(0))
}

func TestLoadsAndDelaysOfAllShapes(t *testing.T) {
	for _, block := range wiredBlocks() {
		for net := range int64(len(block.b.Wires)) {
			checkNet(t, block.name, block.b, net, forEachNode(block.b, net, loadOf), forEachNode(block.b, net, delayOf))
		}
	}
	for _, b := range sampleBlocks() {
		for net := range int64(len(b.Wires)) {
			checkNet(t, "a sample", b, net, forEachNode(b, net, loadOf), forEachNode(b, net, delayOf))
		}
	}
}

// The load of a driver is the sum of the capacitances of the wire and of all sinks.
func TestLoadsOfDrivers(t *testing.T) {
	for _, block := range wiredBlocks() {
		b := block.b
		for net, w := range b.Wires {
			var sum int64
			for _, load := range w.Cap {
				sum += load
			}
			for _, sink := range impl.SinksOf(b.Library, b.Design, int64(net)) {
				sum += impl.PlaceCap(b.Library, b.Design, sink)
			}
			load, code := impl.NetLoad(b, int64(net))
			checkList(t, block.name+", the load of a driver", nums(load), code, nums(sum), impl.ErrNone)
		}
	}
}

func TestDelaysDoNotDecreaseAlongAWire(t *testing.T) {
	for _, block := range wiredBlocks() {
		for net, w := range block.b.Wires {
			delays, _ := impl.NodeDelays(block.b, int64(net))
			for node := 1; node < len(w.Parent); node++ {
				if delays[node] < delays[w.Parent[node]] {
					t.Errorf("%s, net %d: the delays %v of %+v decrease to the node %d", block.name, net, delays, w, node)
				}
			}
		}
	}
}

// cloneWires returns a block with wires that share no memory with those of b.
func cloneWires(b impl.Block) impl.Block {
	b.Wires = slices.Clone(b.Wires)
	for i, w := range b.Wires {
		b.Wires[i] = wire(slices.Clone(w.Parent), slices.Clone(w.Res), slices.Clone(w.Cap), slices.Clone(w.Sink)...)
	}
	return b
}

// answersOf returns all delays and slews of a net.
func answersOf(b impl.Block, net int64) []int64 {
	list, _ := impl.NodeDelays(b, net)
	for _, mode := range nums(impl.Early, impl.Late) {
		delays, _ := impl.SinkDelays(b, net, mode)
		list = append(list, delays...)
		for sink := range b.Wires[net].Sink {
			slew, _ := impl.SinkSlew(b, net, int64(sink), 30, mode)
			list = append(list, slew)
		}
	}
	return list
}

// checkNotFaster looks whether no delay and no slew of a net is less than before a change.
func checkNotFaster(t *testing.T, name string, before []int64, b impl.Block, net int64) {
	t.Helper()
	after := answersOf(b, net)
	for i := range before {
		if after[i] < before[i] {
			t.Errorf("%s: the delays and slews %v become %v", name, before, after)
			return
		}
	}
}

func TestGreaterResistancesAndCapacitances(t *testing.T) {
	for _, block := range append(wiredBlocks(), wiredBlock{"branches", branchBlock()}) {
		for net, w := range block.b.Wires {
			before := answersOf(block.b, int64(net))
			for node := range w.Parent {
				for _, more := range nums(1, 7, 1000) {
					b := cloneWires(block.b)
					load := &b.Wires[net].Cap[node]
					*load = min(*load+more, impl.MaxCap)
					checkNotFaster(t, block.name+", a capacitance", before, b, int64(net))
					b = cloneWires(block.b)
					if res := &b.Wires[net].Res[node]; node > 0 {
						*res = min(*res+more, impl.MaxRes)
					}
					checkNotFaster(t, block.name+", a resistance", before, b, int64(net))
				}
			}
		}
	}
}

// The capacitances of pins are among those of a wire.
func TestGreaterCapacitancesOfPins(t *testing.T) {
	before, after := branchBlock(), branchBlock()
	for i := range after.Library.Cells {
		pins := after.Library.Cells[i].Pins
		for k := range pins[:len(pins)-1] {
			pins[k].Cap = min(pins[k].Cap+5, impl.MaxPinCap)
		}
	}
	for net := range int64(len(before.Wires)) {
		checkNotFaster(t, "capacitances of pins", answersOf(before, net), after, net)
	}
	checkNet(t, "greater pins", after, 1, nums(101, 10, 90, 86), nums(0, 100, 1800, 4380))
}
