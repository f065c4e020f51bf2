package tests

import (
	"fmt"
	"math/rand"
	"strconv"
	"testing"

	"loop.example/g00861/impl"
)

// The wires and blocks that the tests of layer 7 use, and their loads and delays, which follow
// chapter 7 on their own.

func wire(parent, res, load []int64, sink ...int64) impl.Wire {
	return impl.Wire{Parent: parent, Res: res, Cap: load, Sink: sink}
}

// sameWires compares all fields of wires, without regard to nil and empty lists.
func sameWires(a, b impl.Wire) bool {
	return fmt.Sprintf("%+v", a) == fmt.Sprintf("%+v", b)
}

// wireShapes tell, for a node other than the node 0, which node is above it.
func wireShapes() map[string]func(node int, draw *rand.Rand) int {
	return map[string]func(node int, draw *rand.Rand) int{
		"chain":  func(node int, draw *rand.Rand) int { return node - 1 },
		"star":   func(node int, draw *rand.Rand) int { return 0 },
		"binary": func(node int, draw *rand.Rand) int { return (node - 1) / 2 },
		"tree":   func(node int, draw *rand.Rand) int { return draw.Intn(node) },
	}
}

// drawnWire returns a wire of a shape. Its resistances, capacitances and sinks have no pattern.
func drawnWire(above func(node int, draw *rand.Rand) int, nodes, sinks int, draw *rand.Rand) impl.Wire {
	w := wire(nums(-1), nums(0), nums(int64(draw.Intn(impl.MaxCap+1))))
	for node := 1; node < nodes; node++ {
		w.Parent = append(w.Parent, int64(above(node, draw)))
		w.Res = append(w.Res, int64(draw.Intn(impl.MaxRes+1)))
		w.Cap = append(w.Cap, int64(draw.Intn(impl.MaxCap+1)))
	}
	for range sinks {
		w.Sink = append(w.Sink, int64(draw.Intn(nodes)))
	}
	return w
}

// sinksByNet returns the sinks of each net of a valid design in order.
func sinksByNet(l impl.Library, d impl.Design) [][]spot {
	list := make([][]spot, len(d.Nets))
	for _, s := range spotsOf(l, d) {
		if !s.drives {
			list[s.net] = append(list[s.net], s)
		}
	}
	return list
}

// drawnBlock returns a block of a valid design with wires of a shape and of so many nodes.
func drawnBlock(c designCase, shape string, nodes int) impl.Block {
	draw := rand.New(rand.NewSource(int64(100*len(shape) + nodes)))
	b := impl.Block{Library: c.l, Design: c.d}
	for _, sinks := range sinksByNet(c.l, c.d) {
		b.Wires = append(b.Wires, drawnWire(wireShapes()[shape], nodes, len(sinks), draw))
	}
	return b
}

// wiredBlock is a block with a name for messages.
type wiredBlock struct {
	name string
	b    impl.Block
}

// wiredBlocks are valid blocks with wires of all shapes and all numbers of nodes.
func wiredBlocks() []wiredBlock {
	var list []wiredBlock
	for shape := range wireShapes() {
		for nodes := 1; nodes <= impl.MaxWireNodes; nodes++ {
			for _, c := range []designCase{
				{"mixed design", pinLibrary(), mixedDesign()},
				{"one inverter", pinLibrary(), ring(1)},
				{"ports", impl.Library{}, ports(3, 2)},
				{"drawn design", pinLibrary(), drawnDesign(6, 2, 6)},
			} {
				name := c.name + " with " + shape + " of " + strconv.Itoa(nodes)
				list = append(list, wiredBlock{name, drawnBlock(c, shape, nodes)})
			}
		}
	}
	return list
}

// isBelow reports whether a node of a valid wire is another one or below it.
func isBelow(w impl.Wire, node, other int64) bool {
	for node > other {
		node = w.Parent[node]
	}
	return node == other
}

// loadOf returns the load of a node of the wire of a net.
func loadOf(b impl.Block, net, node int64) int64 {
	w, sum := b.Wires[net], int64(0)
	for i, load := range w.Cap {
		if isBelow(w, int64(i), node) {
			sum += load
		}
	}
	for i, s := range sinksByNet(b.Library, b.Design)[net] {
		if isBelow(w, w.Sink[i], node) {
			sum += s.load
		}
	}
	return sum
}

// delayOf returns the delay of a node of the wire of a net.
func delayOf(b impl.Block, net, node int64) int64 {
	w, sum := b.Wires[net], int64(0)
	for i, res := range w.Res {
		if isBelow(w, node, int64(i)) {
			sum += res * loadOf(b, net, int64(i))
		}
	}
	return sum
}

// forEachNode returns what a function tells of each node of the wire of a net.
func forEachNode(b impl.Block, net int64, of func(b impl.Block, net, node int64) int64) []int64 {
	var list []int64
	for node := range b.Wires[net].Parent {
		list = append(list, of(b, net, int64(node)))
	}
	return list
}

// checkList compares an answer of a function and its code with what they must be.
func checkList(t *testing.T, name string, got []int64, gotCode int64, want []int64, code int64) {
	t.Helper()
	if gotCode != code {
		t.Errorf("%s: the code is %d; want %d", name, gotCode, code)
	}
	checkNumbers(t, name, got, want...)
}

// lineBlock returns a block of one net with an input port and an output port, and a wire of two
// nodes below the node 0, of which the last one has the given delay and the sink.
func lineBlock(delay int64) impl.Block {
	// The load of the node 1 is 501, that of the node 2 is 1.
	w := wire(nums(-1, 0, 1), nums(0, delay/501, delay%501), nums(9, 500, 1), 2)
	return impl.Block{Design: ports(1, 1), Wires: []impl.Wire{w}}
}

// longestBlock returns the block with the longest delay: as many input pins as there can be, with
// the greatest capacitance, at the end of a chain.
func longestBlock() impl.Block {
	l := library(withCaps(named("big", gate(make([]int64, 16))), impl.MaxPinCap, impl.MaxPinCap, impl.MaxPinCap, impl.MaxPinCap))
	d := impl.Design{Nets: []string{"all"}, Ports: []impl.Port{inPort("in", 0)}}
	b := impl.Block{Library: l}
	for i := range impl.MaxInstances {
		name := "x" + strconv.Itoa(i)
		d.Nets = append(d.Nets, name)
		d.Instances = append(d.Instances, inst(name, 0, 0, 0, 0, 0, int64(i+1)))
	}
	w := wire(nums(-1), nums(0), nums(impl.MaxCap))
	for node := 1; node < impl.MaxWireNodes; node++ {
		w.Parent, w.Res, w.Cap = append(w.Parent, int64(node-1)), append(w.Res, impl.MaxRes), append(w.Cap, impl.MaxCap)
	}
	for range 4 * impl.MaxInstances {
		w.Sink = append(w.Sink, impl.MaxWireNodes-1)
	}
	b.Design, b.Wires = d, []impl.Wire{w}
	for range impl.MaxInstances {
		b.Wires = append(b.Wires, wire(nums(-1), nums(0), nums(0)))
	}
	return b
}
