package tests

import (
	"fmt"
	"math"
	"slices"
	"testing"

	"loop.example/g00861/impl"
)

// The codes of edits and their order.

func TestEditConstants(t *testing.T) {
	checkNumbers(t, "the kinds of edits", nums(impl.EditSwap, impl.EditBuffer, impl.EditUnbuffer, impl.EditMove, impl.EditWire), 1, 2, 3, 4, 5)
	checkNumbers(t, "MaxEdits", nums(impl.MaxEdits), 20)
}

func TestSwitchBlock(t *testing.T) {
	checkBlockText(t, switchBlock(), switchText)
}

// Every edit of every kind with numbers around the places, cells, nets and nodes that there are.
func TestAllEdits(t *testing.T) {
	for _, block := range editBlocks() {
		for _, e := range editsNear(block.b) {
			checkEdit(t, block.name, block.b, e)
		}
	}
}

// checkCode looks whether an edit has a code, and whether this is the one that chapter 8 gives it.
func checkCode(t *testing.T, name string, b impl.Block, e impl.Edit, want int64) {
	t.Helper()
	if got := impl.EditCode(b, e); got != want {
		t.Errorf("%s: EditCode(%+v) = %d; want %d", name, e, got, want)
	}
	checkEdit(t, name, b, e)
}

func TestKindsOfEdits(t *testing.T) {
	kinds := nums(0, 6, 7, -1, -2, -5, 100, 1<<8+1, 1<<16+2, 1<<32, 1<<32+1, 1<<32+3, -1<<32+3, math.MinInt64, math.MinInt64+1, math.MaxInt64)
	for _, block := range editBlocks() {
		for _, kind := range kinds {
			for _, e := range []impl.Edit{unbuffer(), swap(u1Output, bigGate), buffer(u1Input, invGate, "new"), move(u1Input, 1, 0), rewire(0, switchBlock().Wires[0])} {
				e.Kind = kind
				checkRefusedEdit(t, block.name, block.b, e, impl.ErrRange)
			}
		}
	}
}

// possibleEdits are edits of every kind that are possible in the block of the buffer.
func possibleEdits() []impl.Edit {
	return []impl.Edit{
		swap(1, invGate), swap(3, bigGate), buffer(0, invGate, "new"), unbuffer(), move(0, 1, 0), move(4, 1, 1), move(2, 0, 0),
		rewire(0, wire(nums(-1, 0), nums(0, 1), nums(4, 5), 1)), rewire(2, bufferBlock().Wires[2]),
	}
}

// spoiltFields are changes of one field each, in the order of mentions.
func spoiltFields() [6][]func(e *impl.Edit) {
	number := func(field func(e *impl.Edit) *int64) []func(e *impl.Edit) {
		var list []func(e *impl.Edit)
		for _, v := range nums(1, -1, 2, 1<<32, math.MinInt64, math.MaxInt64) {
			list = append(list, func(e *impl.Edit) { *field(e) = v })
		}
		return list
	}
	return [6][]func(e *impl.Edit){
		number(func(e *impl.Edit) *int64 { return &e.Place }),
		number(func(e *impl.Edit) *int64 { return &e.Cell }),
		number(func(e *impl.Edit) *int64 { return &e.Net }),
		number(func(e *impl.Edit) *int64 { return &e.Node }),
		{func(e *impl.Edit) { e.Name = "new" }, func(e *impl.Edit) { e.Name = " " }, func(e *impl.Edit) { e.Name = "\x00" }},
		{
			func(e *impl.Edit) { e.Wire.Parent = nums(-1) },
			func(e *impl.Edit) { e.Wire.Res = nums(0) },
			func(e *impl.Edit) { e.Wire.Cap = nums(0) },
			func(e *impl.Edit) { e.Wire.Sink = nums(0) },
			func(e *impl.Edit) { e.Wire = wire(nums(-1), nums(0), nums(0)) },
		},
	}
}

// A field that the kind does not mention must be zero, whether the edit is possible otherwise or not.
func TestFieldsThatAreNotMentioned(t *testing.T) {
	for _, e := range possibleEdits() {
		checkCode(t, "possible", bufferBlock(), e, impl.ErrNone)
		for i, changes := range spoiltFields() {
			for _, change := range changes {
				spoilt := e
				change(&spoilt)
				if mentions(e.Kind)[i] {
					checkEdit(t, "another field", bufferBlock(), spoilt)
					continue
				}
				for _, block := range editBlocks() {
					checkRefusedEdit(t, block.name, block.b, spoilt, impl.ErrRange)
				}
			}
		}
	}
}

// A list that is empty but not nil is zero.
func TestEmptyListsOfEdits(t *testing.T) {
	for _, e := range possibleEdits() {
		if e.Kind != impl.EditWire {
			e.Wire = wire(nums(), nums(), nums(), nums()...)
			checkCode(t, "all lists", bufferBlock(), e, impl.ErrNone)
			e.Wire = impl.Wire{Sink: make([]int64, 0, 5)}
			checkCode(t, "a list", bufferBlock(), e, impl.ErrNone)
		}
	}
	rewired := rewire(0, wire(nums(-1), nums(0), nums(1), nums()...))
	checkCode(t, "no sinks", impl.Block{Design: ports(1, 0), Wires: []impl.Wire{wire(nums(-1), nums(0), nums(0))}}, rewired, impl.ErrNone)
}

func TestNumbersOfEdits(t *testing.T) {
	b := switchBlock()
	for _, place := range outside(switchPlaces) {
		for _, e := range []impl.Edit{swap(place, invGate), buffer(place, invGate, "new"), move(place, 0, 0)} {
			checkRefusedEdit(t, "no place", b, e, impl.ErrRange)
		}
	}
	for _, cell := range outside(len(b.Library.Cells)) {
		for _, e := range []impl.Edit{swap(u1Output, cell), buffer(u1Input, cell, "new")} {
			checkRefusedEdit(t, "no cell", b, e, impl.ErrRange)
		}
	}
	for _, net := range outside(len(b.Wires)) {
		for _, e := range []impl.Edit{move(u1Input, net, 0), rewire(net, b.Wires[0]), rewire(net, impl.Wire{})} {
			checkRefusedEdit(t, "no net", b, e, impl.ErrRange)
		}
	}
	for net, w := range b.Wires {
		last := int64(len(w.Parent) - 1)
		for _, node := range outside(len(w.Parent)) {
			checkRefusedEdit(t, "no node", b, move(u1Input, int64(net), node), impl.ErrRange)
			checkRefusedEdit(t, "no node", b, move(o3Place, int64(net), node), impl.ErrRange)
		}
		if net != 0 {
			checkCode(t, "the last node", b, move(u1Input, int64(net), last), impl.ErrNone)
		}
	}
	checkCode(t, "the last place", b, move(o3Place, 5, 0), impl.ErrNone)
	checkCode(t, "the last place", b, buffer(o3Place, invGate, "new"), impl.ErrNone)
	checkCode(t, "the last place", b, swap(o3Place, invGate), impl.ErrState)
	checkCode(t, "the last cell", b, swap(ffOutput, heldLatch), impl.ErrState)
	checkCode(t, "the last net", b, rewire(5, b.Wires[5]), impl.ErrNone)
}

func TestConditionsOfSwaps(t *testing.T) {
	b := switchBlock()
	for place := range int64(switchPlaces) {
		output := slices.Contains(nums(u1Output, u2Output, ffOutput, u4Output), place)
		for cell := range int64(len(b.Library.Cells)) {
			if !output {
				checkCode(t, "no output of an instance", b, swap(place, cell), impl.ErrState)
			}
		}
	}
	for _, c := range []struct{ place, cell, want int64 }{
		{u1Output, invGate, impl.ErrNone}, {u1Output, bigGate, impl.ErrNone}, {u4Output, bigGate, impl.ErrNone}, {u2Output, andGate, impl.ErrNone},
		{ffOutput, riseFlop, impl.ErrNone}, {ffOutput, fallFlop, impl.ErrNone},
		// Another number of pins.
		{u1Output, andGate, impl.ErrState}, {u2Output, invGate, impl.ErrState}, {ffOutput, tickFlop, impl.ErrState},
		// Another kind.
		{u1Output, tickFlop, impl.ErrState}, {ffOutput, heldLatch, impl.ErrState},
		// The clock at another pin.
		{ffOutput, lateFlop, impl.ErrState},
	} {
		checkCode(t, fmt.Sprint("a swap at ", c.place), b, swap(c.place, c.cell), c.want)
	}
	held := switchBlock()
	held.Design.Instances[2].Cell = heldLatch
	for cell := range int64(len(b.Library.Cells)) {
		want := int64(impl.ErrState)
		if cell == heldLatch {
			want = impl.ErrNone
		}
		checkCode(t, "a latch", held, swap(ffOutput, cell), want)
	}
}

func TestConditionsOfBuffers(t *testing.T) {
	b := switchBlock()
	for place := range int64(switchPlaces) {
		want := int64(impl.ErrNone)
		if slices.Contains(nums(u1Output, u2Output, ffOutput, u4Output, inPlace, ckPlace), place) {
			want = impl.ErrState
		}
		checkCode(t, "a place", b, buffer(place, invGate, "new"), want)
		checkCode(t, "a place", b, buffer(place, bigGate, "new"), want)
		for cell := int64(andGate); cell <= heldLatch; cell++ {
			checkCode(t, "a cell", b, buffer(place, cell, "new"), impl.ErrState)
		}
	}
	for _, name := range []string{"u1", "u2", "ff", "u4", "n0", "n1", "n4", "ck", "", " ", "X", "9a", "a b", "a/b", "ninebytes", "x\n", "\xff", "ä"} {
		checkCode(t, "a name", b, buffer(u4Input, invGate, name), impl.ErrState)
	}
	// Names that only ports, cells and pins have, and ones of one and of eight bytes.
	for _, name := range []string{"in", "o1", "o2", "o3", "inv", "rise", "i0", "q", "z", "eightbyt", "a1234567", "n5", "u3"} {
		checkCode(t, "a name", b, buffer(u4Input, invGate, name), impl.ErrNone)
	}
}

func TestBuffersOfOneAndThreePins(t *testing.T) {
	l := library(named("four", gate(make([]int64, 16))), named("three", gate(make([]int64, 8))), named("two", and()), named("one", inverter()))
	b := impl.Block{Library: l, Design: ports(1, 1), Wires: []impl.Wire{wire(nums(-1), nums(0), nums(0), 0)}}
	for cell, want := range nums(impl.ErrState, impl.ErrState, impl.ErrState, impl.ErrNone, impl.ErrRange) {
		checkCode(t, "gates", b, buffer(1, int64(cell), "new"), want)
	}
}

// unbufferChanges make one condition each of an EditUnbuffer wrong in the block of the buffer.
func unbufferChanges() map[string]func(b *impl.Block) {
	return map[string]func(b *impl.Block){
		"another name of the net":      func(b *impl.Block) { b.Design.Nets[2] = "y" },
		"another name of the instance": func(b *impl.Block) { b.Design.Instances[1].Name = "y" },
		"a flop of two pins":           func(b *impl.Block) { b.Design.Instances[1].Cell = tickFlop },
		"a capacitance":                func(b *impl.Block) { b.Wires[2].Cap = nums(1) },
		"a wire of two nodes":          func(b *impl.Block) { b.Wires[2] = wire(nums(-1, 0), nums(0, 0), nums(0, 0), 0) },
		"no sink": func(b *impl.Block) {
			b.Design.Ports[0].Net = 0
			b.Wires[0].Sink, b.Wires[2].Sink = nums(0, 0), nil
		},
		"two sinks": func(b *impl.Block) {
			b.Design.Ports = append(b.Design.Ports, outPort("o2", 2))
			b.Wires[2].Sink = nums(0, 0)
		},
		"not the last instance": func(b *impl.Block) { slices.Reverse(b.Design.Instances) },
		"not the last net": func(b *impl.Block) {
			b.Design.Nets = append(b.Design.Nets, "y")
			b.Design.Ports = append(b.Design.Ports, inPort("y", 3))
			b.Wires = append(b.Wires, wire(nums(-1), nums(0), nums(0)))
		},
		"the last net is that of a port": func(b *impl.Block) {
			*b = impl.Block{Library: b.Library, Design: impl.Design{Instances: []impl.Instance{inst("x", invGate, 1, 0)}, Nets: []string{"n0", "x"}, Ports: []impl.Port{inPort("in", 1)}}}
			b.Wires = []impl.Wire{wire(nums(-1), nums(0), nums(0)), wire(nums(-1), nums(0), nums(0), 0)}
		},
		"a port drives the net of its name": func(b *impl.Block) {
			d := impl.Design{Instances: []impl.Instance{inst("x", invGate, 0, 1)}, Nets: []string{"n0", "n1", "x"}, Ports: []impl.Port{inPort("in", 0), inPort("p", 2), outPort("o", 2)}}
			bare := wire(nums(-1), nums(0), nums(0))
			lone := wire(nums(-1), nums(0), nums(0), 0)
			*b = impl.Block{Library: b.Library, Design: d, Wires: []impl.Wire{lone, bare, lone}}
		},
		"its own input": func(b *impl.Block) {
			b.Design.Instances[1].Nets = nums(2, 2)
			b.Design.Ports[0].Net = 1
			b.Wires[1].Sink, b.Wires[2].Sink = nums(1), nums(0)
		},
		"no instance": func(b *impl.Block) {
			*b = impl.Block{Library: b.Library, Design: ports(1, 1), Wires: []impl.Wire{wire(nums(-1), nums(0), nums(0), 0)}}
		},
		"no design": func(b *impl.Block) { *b = impl.Block{Library: b.Library} },
	}
}

func TestConditionsOfUnbuffers(t *testing.T) {
	checkCode(t, "a port as the sink", bufferBlock(), unbuffer(), impl.ErrNone)
	for name, change := range unbufferChanges() {
		b := bufferBlock()
		change(&b)
		checkBlock(t, name, b, true)
		checkCode(t, name, b, unbuffer(), impl.ErrState)
	}
	checkCode(t, "zero", impl.Block{}, unbuffer(), impl.ErrState)
	checkCode(t, "switch", switchBlock(), unbuffer(), impl.ErrState)
}

// A last instance of every kind of cell drives the last net, which has its name and one sink.
func TestUnbuffersOfOtherCells(t *testing.T) {
	for cell, c := range editLibrary().Cells {
		x := inst("x", int64(cell))
		lines := wire(nums(-1), nums(0), nums(0))
		for range len(c.Pins) - 1 {
			x.Nets, lines.Sink = append(x.Nets, 0), append(lines.Sink, 0)
		}
		x.Nets = append(x.Nets, 1)
		d := impl.Design{Instances: []impl.Instance{x}, Nets: []string{"in", "x"}, Ports: []impl.Port{inPort("in", 0), outPort("out", 1)}}
		b := impl.Block{Library: editLibrary(), Design: d, Wires: []impl.Wire{lines, wire(nums(-1), nums(0), nums(0), 0)}}
		want := int64(impl.ErrState)
		if cell == invGate || cell == bigGate {
			want = impl.ErrNone
		}
		checkBlock(t, c.Name, b, true)
		checkCode(t, c.Name, b, unbuffer(), want)
	}
}

func TestConditionsOfMoves(t *testing.T) {
	b := switchBlock()
	for place, s := range spotsOf(b.Library, b.Design) {
		for net := range int64(len(b.Wires)) {
			want := int64(impl.ErrNone)
			if s.drives || net == s.net {
				want = impl.ErrState
			}
			checkCode(t, "a move", b, move(int64(place), net, 0), want)
		}
	}
	// The sink of the buffer, and its input.
	for _, c := range []struct{ place, net, want int64 }{{4, 0, impl.ErrNone}, {4, 1, impl.ErrNone}, {4, 2, impl.ErrState}, {2, 2, impl.ErrNone}, {2, 0, impl.ErrNone}, {3, 0, impl.ErrState}} {
		checkCode(t, "a move at a buffer", bufferBlock(), move(c.place, c.net, 0), c.want)
	}
}

func TestConditionsOfWires(t *testing.T) {
	b := switchBlock()
	for net, w := range b.Wires {
		checkCode(t, "the same wire", b, rewire(int64(net), w), impl.ErrNone)
		checkCode(t, "no wire", b, rewire(int64(net), impl.Wire{}), impl.ErrState)
		for _, wrong := range wrongWires(w) {
			checkCode(t, "a wrong wire", b, rewire(int64(net), wrong), impl.ErrState)
		}
	}
	single := impl.Block{Design: ports(1, 0), Wires: []impl.Wire{wire(nums(-1), nums(0), nums(7))}}
	checkCode(t, "no sinks", single, rewire(0, wire(nums(-1, 0), nums(0, 1000), nums(500, 0))), impl.ErrNone)
	checkCode(t, "no sinks", single, rewire(0, wire(nums(-1, 0), nums(0, 1000), nums(500, 0), 0)), impl.ErrState)
}

func TestBuffersAtTheLimit(t *testing.T) {
	for n := 12; n <= impl.MaxInstances; n++ {
		b := ringBlock(n)
		want := int64(impl.ErrNone)
		if n == impl.MaxInstances {
			want = impl.ErrLimit
		}
		checkCode(t, "a ring", b, buffer(0, invGate, "new"), want)
		checkCode(t, "a ring", b, buffer(int64(2*n-2), bigGate, "new"), want)
		// A condition that does not hold comes first.
		for _, e := range []impl.Edit{buffer(1, invGate, "new"), buffer(0, andGate, "new"), buffer(0, invGate, "u3"), buffer(0, invGate, "n3"), buffer(0, invGate, "")} {
			checkCode(t, "a ring", b, e, impl.ErrState)
		}
		// So does a number or a field that is not right.
		for _, e := range []impl.Edit{buffer(int64(2*n), invGate, "new"), buffer(0, 8, "new"), {Kind: impl.EditBuffer, Net: 1, Name: "new"}, {Kind: impl.EditBuffer, Place: 1, Node: 1}} {
			checkCode(t, "a ring", b, e, impl.ErrRange)
		}
		// The limit is that of no other kind.
		for _, e := range []impl.Edit{swap(1, bigGate), move(0, 1, 1), rewire(3, wire(nums(-1), nums(0), nums(0), 0))} {
			checkCode(t, "a ring", b, e, impl.ErrNone)
		}
	}
}

// Of two errors the first one of the chapter counts.
func TestOrderOfCodes(t *testing.T) {
	for i, b := range invalidBlocks() {
		edits := append(possibleEdits(), impl.Edit{}, impl.Edit{Kind: 6}, swap(-1, -1), buffer(1, andGate, ""), move(1, 1, 0), move(0, math.MaxInt64, math.MinInt64), rewire(0, impl.Wire{}), impl.Edit{Kind: impl.EditUnbuffer, Place: 1})
		for _, e := range edits {
			checkRefusedEdit(t, fmt.Sprint("invalid block ", i), b, e, impl.ErrInvalid)
		}
	}
	// A field that is not right comes before a condition that does not hold.
	for _, e := range []impl.Edit{
		{Kind: impl.EditSwap, Place: u1Input, Cell: invGate, Node: 1},
		{Kind: impl.EditSwap, Place: u1Input, Cell: 8},
		{Kind: impl.EditBuffer, Place: u1Output, Cell: andGate, Net: 1},
		{Kind: impl.EditBuffer, Place: switchPlaces, Cell: andGate},
		{Kind: impl.EditUnbuffer, Name: "x"},
		{Kind: impl.EditMove, Place: u1Output, Net: 1, Cell: 1},
		{Kind: impl.EditMove, Place: u1Output, Net: 1, Node: 4},
		{Kind: impl.EditMove, Place: u2First, Net: 1, Node: 4},
		{Kind: impl.EditWire, Net: 1, Place: 1},
		{Kind: impl.EditWire, Net: 6},
	} {
		checkCode(t, "switch", switchBlock(), e, impl.ErrRange)
	}
}
