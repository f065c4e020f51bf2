package tests

import (
	"fmt"
	"slices"
	"strings"
	"testing"

	"loop.example/g00861/impl"
)

// What edits do, in blocks that are written down.

// replaced returns a text in which each of the old parts, which come in pairs with the new ones, is
// replaced.
func replaced(t *testing.T, text string, pairs ...string) string {
	t.Helper()
	for i := 0; i < len(pairs); i += 2 {
		if strings.Count(text, pairs[i]) != 1 {
			t.Fatalf("%q is not once in %q", pairs[i], text)
		}
		text = strings.Replace(text, pairs[i], pairs[i+1], 1)
	}
	return text
}

// checkApplied looks whether the block after an edit has a text.
func checkApplied(t *testing.T, b impl.Block, e impl.Edit, want string) {
	t.Helper()
	after, code := impl.ApplyEdit(b, e)
	if got := impl.BlockText(after); code != impl.ErrNone || got != want {
		t.Errorf("%+v gives %d and %q; want %q", e, code, got, want)
	}
}

// checkSwitch looks whether an edit of switchBlock replaces parts of its text.
func checkSwitch(t *testing.T, e impl.Edit, pairs ...string) {
	t.Helper()
	checkApplied(t, switchBlock(), e, replaced(t, switchText, pairs...))
}

func TestSwaps(t *testing.T) {
	checkSwitch(t, swap(u1Output, bigGate), "inst u1 inv", "inst u1 big")
	checkSwitch(t, swap(u4Output, bigGate), "inst u4 inv", "inst u4 big")
	checkSwitch(t, swap(ffOutput, fallFlop), "inst ff rise", "inst ff fall")
	checkSwitch(t, swap(ffOutput, riseFlop))
	checkSwitch(t, swap(u2Output, andGate))
}

// buffered are the parts of switchText that a buffer at any place replaces, in pairs.
func buffered(old, cell string) []string {
	return []string{"net ck\nport", "net ck\nnet x\nport", "inst u4 inv n3 n4\n", "inst u4 inv n3 n4\ninst x " + cell + " " + old + " x\n", "wire ck -1|0|2|0\n", "wire ck -1|0|2|0\nwire x -1|0|0|0\n"}
}

func TestBuffers(t *testing.T) {
	for _, c := range []struct {
		place, cell int64
		old         string
		pairs       []string
	}{
		// The four sinks of n1, of which the first and the third are at one node.
		{u2First, invGate, "n1", []string{"u2 and n1 n1", "u2 and x n1", "|3,1,3,0", "|1,3,3,0"}},
		{u2Second, bigGate, "n1", []string{"u2 and n1 n1", "u2 and n1 x", "|3,1,3,0", "|3,3,1,0"}},
		{ffSecond, invGate, "n1", []string{"ff rise n2 ck n1", "ff rise n2 ck x"}},
		{o3Place, bigGate, "n1", []string{"port o3 out n1", "port o3 out x"}},
		// One sink, and a sink before and behind another one.
		{u1Input, invGate, "n0", []string{"u1 inv n0", "u1 inv x"}},
		{ffFirst, bigGate, "n2", []string{"ff rise n2", "ff rise x"}},
		{o1Place, bigGate, "n2", []string{"port o1 out n2", "port o1 out x"}},
		{o2Place, bigGate, "n4", []string{"port o2 out n4", "port o2 out x"}},
		{ffClock, invGate, "ck", []string{"ff rise n2 ck n1", "ff rise n2 x n1"}},
	} {
		cell := editLibrary().Cells[c.cell].Name
		checkSwitch(t, buffer(c.place, c.cell, "x"), append(c.pairs, buffered(c.old, cell)...)...)
	}
}

// An instance whose input is on the net of its own output, and a net that only ports are on.
func TestBuffersOfSmallBlocks(t *testing.T) {
	checkApplied(t, ringBlock(1), buffer(0, bigGate, "n"), "net n0\nnet n\ninst u0 inv n n0\ninst n big n0 n\nwire n0 -1,0|0,0|1,2|0\nwire n -1|0|0|0\n")
	line := impl.Block{Library: editLibrary(), Design: ports(1, 2), Wires: []impl.Wire{wire(nums(-1, 0, 1), nums(0, 1, 2), nums(3, 4, 5), 1, 2)}}
	checkApplied(t, line, buffer(1, invGate, "o0"), "net n0\nnet o0\nport i0 in n0\nport o0 out o0\nport o1 out n0\ninst o0 inv n0 o0\nwire n0 -1,0,1|0,1,2|3,4,5|1,2\nwire o0 -1|0|0|0\n")
	checkApplied(t, line, buffer(2, invGate, "o0"), "net n0\nnet o0\nport i0 in n0\nport o0 out n0\nport o1 out o0\ninst o0 inv n0 o0\nwire n0 -1,0,1|0,1,2|3,4,5|2,1\nwire o0 -1|0|0|0\n")
}

func TestUnbuffers(t *testing.T) {
	checkApplied(t, bufferBlock(), unbuffer(), "net n0\nnet n1\nport o out n1\nport in in n0\ninst u1 inv n0 n1\nwire n0 -1|0|3|0\nwire n1 -1,0|0,50|1,2|1\n")
	// The sink of the buffer is ahead of the other sink of the net of its input, and behind it.
	ahead := bufferBlock()
	ahead.Design.Instances = slices.Insert(ahead.Design.Instances, 0, inst("u0", andGate, 2, 1, 3))
	ahead.Design.Nets = slices.Insert(ahead.Design.Nets, 2, "n2")
	ahead.Design.Instances[0].Nets, ahead.Design.Instances[2].Nets, ahead.Design.Ports[0].Net = nums(3, 1, 2), nums(1, 3), 2
	ahead.Wires = []impl.Wire{ahead.Wires[0], wire(nums(-1, 0, 0), nums(0, 50, 60), nums(1, 2, 3), 1, 2), wire(nums(-1), nums(0), nums(9), 0), ahead.Wires[2]}
	checkBlockText(t, ahead, "net n0\nnet n1\nnet n2\nnet x\nport o out n2\nport in in n0\ninst u0 and x n1 n2\ninst u1 inv n0 n1\ninst x big n1 x\nwire n0 -1|0|3|0\nwire n1 -1,0,0|0,50,60|1,2,3|1,2\nwire n2 -1|0|9|0\nwire x -1|0|0|0\n")
	checkApplied(t, ahead, unbuffer(), "net n0\nnet n1\nnet n2\nport o out n2\nport in in n0\ninst u0 and n1 n1 n2\ninst u1 inv n0 n1\nwire n0 -1|0|3|0\nwire n1 -1,0,0|0,50,60|1,2,3|2,1\nwire n2 -1|0|9|0\n")
	ahead.Design.Instances[0].Nets = nums(1, 3, 2)
	checkApplied(t, ahead, unbuffer(), "net n0\nnet n1\nnet n2\nport o out n2\nport in in n0\ninst u0 and n1 n1 n2\ninst u1 inv n0 n1\nwire n0 -1|0|3|0\nwire n1 -1,0,0|0,50,60|1,2,3|1,2\nwire n2 -1|0|9|0\n")
}

func TestMoves(t *testing.T) {
	// To the front of another net, between and behind its sinks.
	checkSwitch(t, move(u1Input, 1, 2), "u1 inv n0", "u1 inv n1", "wire n0 -1|0|3|0", "wire n0 -1|0|3|", "|3,1,3,0", "|2,3,1,3,0")
	checkSwitch(t, move(u4Input, 1, 2), "u4 inv n3", "u4 inv n1", "wire n3 -1|0|0|0", "wire n3 -1|0|0|", "|3,1,3,0", "|3,1,3,2,0")
	checkSwitch(t, move(ffFirst, 1, 0), "ff rise n2", "ff rise n1", "|0,9|1,0", "|0,9|0", "|3,1,3,0", "|3,1,0,3,0")
	checkSwitch(t, move(o1Place, 1, 2), "port o1 out n2", "port o1 out n1", "|0,9|1,0", "|0,9|1", "|3,1,3,0", "|3,1,3,2,0")
	checkSwitch(t, move(o2Place, 1, 2), "port o2 out n4", "port o2 out n1", "|5,6|1", "|5,6|", "|3,1,3,0", "|3,1,3,2,0")
	checkSwitch(t, move(o3Place, 4, 0), "port o3 out n1", "port o3 out n4", "|5,6|1", "|5,6|1,0", "|3,1,3,0", "|3,1,3")
	checkSwitch(t, move(o3Place, 0, 0), "port o3 out n1", "port o3 out n0", "|0|3|0", "|0|3|0,0", "|3,1,3,0", "|3,1,3")
	checkSwitch(t, move(u2First, 2, 1), "u2 and n1 n1", "u2 and n2 n1", "|0,9|1,0", "|0,9|1,1,0", "|3,1,3,0", "|1,3,0")
	checkSwitch(t, move(u2Second, 2, 0), "u2 and n1 n1", "u2 and n1 n2", "|0,9|1,0", "|0,9|0,1,0", "|3,1,3,0", "|3,3,0")
	checkSwitch(t, move(ffSecond, 2, 0), "ff rise n2 ck n1", "ff rise n2 ck n2", "|0,9|1,0", "|0,9|1,0,0", "|3,1,3,0", "|3,1,0")
	// The sink of a buffer, which is then without sinks.
	checkApplied(t, bufferBlock(), move(4, 1, 0), "net n0\nnet n1\nnet x\nport o out n1\nport in in n0\ninst u1 inv n0 n1\ninst x big n1 x\nwire n0 -1|0|3|0\nwire n1 -1,0|0,50|1,2|1,0\nwire x -1|0|0|\n")
	checkApplied(t, bufferBlock(), move(2, 2, 0), "net n0\nnet n1\nnet x\nport o out x\nport in in n0\ninst u1 inv n0 n1\ninst x big x x\nwire n0 -1|0|3|0\nwire n1 -1,0|0,50|1,2|\nwire x -1|0|0|0,0\n")
}

func TestRewirings(t *testing.T) {
	checkSwitch(t, rewire(0, wire(nums(-1, 0), nums(0, 1000), nums(500, 0), 1)), "wire n0 -1|0|3|0", "wire n0 -1,0|0,1000|500,0|1")
	checkSwitch(t, rewire(1, wire(nums(-1), nums(0), nums(1), 0, 0, 0, 0)), "wire n1 -1,0,1,1|0,100,200,300|1,2,4,8|3,1,3,0", "wire n1 -1|0|1|0,0,0,0")
	checkSwitch(t, rewire(1, switchBlock().Wires[1]))
	checkSwitch(t, rewire(5, wire(nums(-1, 0), nums(0, 1), nums(2, 3), 1)), "wire ck -1|0|2|0", "wire ck -1,0|0,1|2,3|1")
	bare := impl.Block{Design: ports(1, 0), Wires: []impl.Wire{wire(nums(-1), nums(0), nums(7))}}
	checkApplied(t, bare, rewire(0, wire(nums(-1, 0), nums(0, 1), nums(2, 3))), "net n0\nport i0 in n0\nwire n0 -1,0|0,1|2,3|\n")
}

func checkTouched(t *testing.T, b impl.Block, e impl.Edit, want ...int64) {
	t.Helper()
	nets, code := impl.TouchedNets(b, e)
	checkList(t, fmt.Sprintf("TouchedNets of %+v", e), nets, code, want, impl.ErrNone)
}

func TestTouchedNets(t *testing.T) {
	b := switchBlock()
	checkTouched(t, b, swap(u1Output, bigGate), 0, 1)
	checkTouched(t, b, swap(u2Output, andGate), 1, 2)
	checkTouched(t, b, swap(ffOutput, fallFlop), 1, 2, 3, 5)
	checkTouched(t, ringBlock(1), swap(1, bigGate), 0)
	checkTouched(t, ringBlock(3), swap(5, bigGate), 0, 2)
	checkTouched(t, b, buffer(u2First, invGate, "x"), 1, 6)
	checkTouched(t, b, buffer(ffClock, invGate, "x"), 5, 6)
	checkTouched(t, bufferBlock(), unbuffer(), 1)
	checkTouched(t, b, move(u2First, 4, 0), 1, 4)
	checkTouched(t, b, move(u4Input, 0, 0), 0, 3)
	checkTouched(t, b, move(o2Place, 5, 0), 4, 5)
	checkTouched(t, bufferBlock(), move(2, 2, 0), 1, 2)
	checkTouched(t, b, rewire(4, b.Wires[4]), 4)
	checkTouched(t, b, rewire(0, b.Wires[0]), 0)
}
