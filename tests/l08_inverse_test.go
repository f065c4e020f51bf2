package tests

import (
	"fmt"
	"math/rand"
	"slices"
	"testing"

	"loop.example/g00861/impl"
)

// Promise 7: an edit, followed by its inverse, restores the block, and a net that it does not touch
// keeps its load and delays.

// checkInverse looks whether an edit has an inverse, and whether it restores the block.
func checkInverse(t *testing.T, b impl.Block, e, want impl.Edit) {
	t.Helper()
	back, code := impl.InverseEdit(b, e)
	if code != impl.ErrNone || !sameEdits(back, want) {
		t.Errorf("InverseEdit(%+v) = %+v, %d; want %+v", e, back, code, want)
	}
	checkRestored(t, "", b, e)
}

// checkRestored looks whether an edit, followed by its inverse, restores the block.
func checkRestored(t *testing.T, name string, b impl.Block, e impl.Edit) {
	t.Helper()
	after, _ := impl.ApplyEdit(b, e)
	back, _ := impl.InverseEdit(b, e)
	again, code := impl.ApplyEdit(after, back)
	if code != impl.ErrNone || !sameBlocks(again, b) || impl.BlockText(again) != impl.BlockText(b) {
		t.Errorf("%s: %+v and then %+v give %d and %q; want %q", name, e, back, code, impl.BlockText(again), impl.BlockText(b))
	}
}

func TestInverses(t *testing.T) {
	b := switchBlock()
	checkInverse(t, b, swap(u1Output, bigGate), swap(u1Output, invGate))
	checkInverse(t, b, swap(ffOutput, fallFlop), swap(ffOutput, riseFlop))
	checkInverse(t, b, swap(u2Output, andGate), swap(u2Output, andGate))
	checkInverse(t, b, move(u2First, 4, 0), move(u2First, 1, 3))
	checkInverse(t, b, move(u2Second, 0, 0), move(u2Second, 1, 1))
	checkInverse(t, b, move(o3Place, 2, 1), move(o3Place, 1, 0))
	checkInverse(t, b, rewire(1, wireFor(4, 3)), rewire(1, b.Wires[1]))
	for _, place := range nums(u1Input, u2First, u2Second, ffFirst, ffClock, ffSecond, u4Input, o1Place, o2Place, o3Place) {
		checkInverse(t, b, buffer(place, bigGate, "x"), unbuffer())
	}
}

// The place of a buffer that undoes an EditUnbuffer is that after the EditUnbuffer.
func TestInversesOfUnbuffers(t *testing.T) {
	for _, place := range nums(u1Input, u2First, u2Second, ffFirst, ffClock, ffSecond, u4Input, o1Place, o2Place, o3Place) {
		e := buffer(place, bigGate, "x")
		checkInverse(t, editedBlock(switchBlock(), e), unbuffer(), e)
	}
	// The sink is the first port, which gets the number that the input of the buffer had.
	checkInverse(t, bufferBlock(), unbuffer(), buffer(2, bigGate, "x"))
	// A buffer of a buffer, at its input and behind its output.
	checkInverse(t, editedBlock(bufferBlock(), buffer(2, invGate, "y")), unbuffer(), buffer(2, invGate, "y"))
	checkInverse(t, editedBlock(bufferBlock(), buffer(4, invGate, "y")), unbuffer(), buffer(4, invGate, "y"))
	// The only instance.
	alone := impl.Block{Library: editLibrary(), Design: ports(1, 2), Wires: []impl.Wire{wire(nums(-1), nums(0), nums(1), 0, 0)}}
	checkInverse(t, editedBlock(alone, buffer(1, invGate, "y")), unbuffer(), buffer(1, invGate, "y"))
	checkInverse(t, editedBlock(alone, buffer(2, invGate, "y")), unbuffer(), buffer(2, invGate, "y"))
}

// checkOtherNets looks whether the nets that an edit does not touch keep their loads and delays.
func checkOtherNets(t *testing.T, name string, b impl.Block, e impl.Edit) {
	t.Helper()
	after, _ := impl.ApplyEdit(b, e)
	touched, _ := impl.TouchedNets(b, e)
	for net := range min(int64(len(b.Wires)), int64(len(after.Wires))) {
		if slices.Contains(touched, net) {
			continue
		}
		before, code := impl.NetLoad(b, net)
		load, afterCode := impl.NetLoad(after, net)
		checkNumbers(t, fmt.Sprintf("%s: the load of %d after %+v", name, net, e), nums(load, afterCode), before, code)
		for _, mode := range nums(impl.Early, impl.Late) {
			before, code := impl.SinkDelays(b, net, mode)
			delays, afterCode := impl.SinkDelays(after, net, mode)
			checkList(t, fmt.Sprintf("%s: the delays of %d after %+v", name, net, e), delays, afterCode, before, code)
		}
	}
}

func TestEditsAreUndone(t *testing.T) {
	for _, block := range editBlocks() {
		kinds := map[int64]int{}
		for _, e := range editsNear(block.b) {
			// Of the buffers one name is enough.
			if codeOfEdit(block.b, e) == impl.ErrNone && (e.Kind != impl.EditBuffer || e.Name == "new") {
				kinds[e.Kind]++
				checkRestored(t, block.name, block.b, e)
				checkOtherNets(t, block.name, block.b, e)
			}
		}
		if len(block.b.Design.Instances) > 1 && (kinds[impl.EditSwap] == 0 || kinds[impl.EditBuffer] == 0 || kinds[impl.EditMove] == 0 || kinds[impl.EditWire] == 0) {
			t.Errorf("%s: the possible edits are %v", block.name, kinds)
		}
	}
}

// drawnEdits returns edits that are possible one after the other, without a pattern, and the block
// after them.
func drawnEdits(b impl.Block, n int, draw *rand.Rand) ([]impl.Edit, impl.Block) {
	var list []impl.Edit
	for len(list) < n {
		places := len(spotsOf(b.Library, b.Design))
		net := draw.Intn(len(b.Wires))
		candidates := []impl.Edit{
			swap(int64(draw.Intn(places)), int64(draw.Intn(len(b.Library.Cells)))),
			buffer(int64(draw.Intn(places)), int64(draw.Intn(2)), fmt.Sprint("b", len(list))),
			unbuffer(),
			move(int64(draw.Intn(places)), int64(net), int64(draw.Intn(len(b.Wires[net].Parent)))),
			rewire(int64(net), wireFor(len(b.Wires[net].Sink), draw.Intn(20))),
		}
		e := candidates[draw.Intn(len(candidates))]
		if codeOfEdit(b, e) == impl.ErrNone {
			list, b = append(list, e), editedBlock(b, e)
		}
	}
	return list, b
}

// A list of edits, followed by its inverse, restores the block, and may be applied in two parts.
func TestListsOfEditsAreUndone(t *testing.T) {
	kinds := map[int64]int{}
	for i, b := range []impl.Block{switchBlock(), bufferBlock(), ringBlock(1), ringBlock(13), branchBlock()} {
		for n := range impl.MaxEdits + 1 {
			list, want := drawnEdits(b, n, rand.New(rand.NewSource(int64(100*i+n))))
			name := fmt.Sprintf("block %d, %+v", i, list)
			after, code, at := impl.ApplyEdits(b, list)
			if code != impl.ErrNone || at != -1 || !sameBlocks(after, want) {
				t.Errorf("%s: ApplyEdits gives %q, %d, %d; want %q", name, impl.BlockText(after), code, at, textOfBlock(want))
			}
			back, code := impl.InverseEdits(b, list)
			again, againCode, at := impl.ApplyEdits(after, back)
			if code != impl.ErrNone || len(back) != n || againCode != impl.ErrNone || at != -1 || !sameBlocks(again, b) || impl.BlockText(again) != impl.BlockText(b) {
				t.Errorf("%s: the inverses %+v, %d give %q, %d, %d", name, back, code, impl.BlockText(again), againCode, at)
			}
			for k := range n + 1 {
				first, _, _ := impl.ApplyEdits(b, list[:k])
				second, code, at := impl.ApplyEdits(first, list[k:])
				if code != impl.ErrNone || at != -1 || !sameBlocks(second, want) {
					t.Errorf("%s: in two parts, of which the first has %d edits: %q, %d, %d", name, k, impl.BlockText(second), code, at)
				}
			}
			for _, e := range list {
				kinds[e.Kind]++
			}
		}
	}
	for kind := int64(1); kind <= 5; kind++ {
		if kinds[kind] < 20 {
			t.Errorf("the lists have %d edits of the kind %d", kinds[kind], kind)
		}
	}
}
