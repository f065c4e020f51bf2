package tests

import (
	"fmt"
	"math/rand"
	"slices"
	"testing"

	"loop.example/g00861/impl"
)

// Lists of edits: numbers of places that follow the edits before, limits and errors.

// checkNoEdits looks whether the functions of lists answer with a code and the index of an edit.
func checkNoEdits(t *testing.T, name string, b impl.Block, list []impl.Edit, want, at int64) {
	t.Helper()
	after, code, index := impl.ApplyEdits(b, list)
	back, backCode := impl.InverseEdits(b, list)
	checkNumbers(t, name+": the codes and the index", nums(code, backCode, index), want, want, at)
	if !sameBlocks(after, impl.Block{}) || len(back) != 0 {
		t.Errorf("%s: %+v, %+v beside an error", name, after, back)
	}
}

func TestNoEdits(t *testing.T) {
	for _, block := range editBlocks() {
		for _, list := range [][]impl.Edit{nil, {}} {
			after, code, at := impl.ApplyEdits(block.b, list)
			back, backCode := impl.InverseEdits(block.b, list)
			if code != impl.ErrNone || at != -1 || !sameBlocks(after, block.b) || len(back) != 0 || backCode != impl.ErrNone {
				t.Errorf("%s: no edits give %+v, %d, %d and %+v, %d", block.name, after, code, at, back, backCode)
			}
		}
	}
}

// The edits behind a buffer and behind its removal mean the places that there are then.
func TestPlacesBehindEdits(t *testing.T) {
	b := switchBlock()
	list := []impl.Edit{
		buffer(o3Place, invGate, "x"), // The buffer has the places 11 and 12, and o3 is the place 17.
		swap(12, bigGate),
		move(11, 2, 1),
		buffer(17, bigGate, "y"), // At o3 again: the buffer has the places 13 and 14.
		move(19, 0, 0),           // This is o3, so that the net y has no sink left.
		move(13, 0, 0),
		move(19, 7, 0), // o3 returns to y,
		unbuffer(),     // so that it is on n0, as the input of y was, and the place 17.
		rewire(0, wire(nums(-1, 0), nums(0, 1), nums(2, 3), 1, 0)),
		move(17, 6, 0), // o3 returns to x,
		unbuffer(),     // and to n2.
	}
	want := replaced(t, switchText, "port o3 out n1", "port o3 out n2", "wire n0 -1|0|3|0", "wire n0 -1,0|0,1|2,3|1", "|3,1,3,0", "|3,1,3", "|0,9|1,0", "|0,9|1,0,1")
	after, code, at := impl.ApplyEdits(b, list)
	if code != impl.ErrNone || at != -1 || impl.BlockText(after) != want {
		t.Errorf("ApplyEdits gives %q, %d, %d; want %q", impl.BlockText(after), code, at, want)
	}
	back, code := impl.InverseEdits(b, list)
	wanted := []impl.Edit{
		buffer(o3Place, bigGate, "x"), move(17, 0, 0), rewire(0, wire(nums(-1), nums(0), nums(3), 0, 0)), buffer(17, bigGate, "y"), move(19, 0, 0),
		move(13, 6, 0), move(19, 7, 0), unbuffer(), move(11, 1, 0), swap(12, invGate), unbuffer(),
	}
	if code != impl.ErrNone || !slices.EqualFunc(back, wanted, sameEdits) {
		t.Errorf("InverseEdits gives %+v, %d; want %+v", back, code, wanted)
	}
	again, code, at := impl.ApplyEdits(after, back)
	if code != impl.ErrNone || at != -1 || impl.BlockText(again) != switchText {
		t.Errorf("the inverses give %q, %d, %d", impl.BlockText(again), code, at)
	}
}

func TestNumberOfEdits(t *testing.T) {
	b := switchBlock()
	for n := impl.MaxEdits - 1; n <= impl.MaxEdits; n++ {
		list := slices.Repeat([]impl.Edit{swap(u1Output, bigGate), swap(u1Output, invGate)}, n)[:n]
		after, code, at := impl.ApplyEdits(b, list)
		back, backCode := impl.InverseEdits(b, list)
		if code != impl.ErrNone || at != -1 || len(back) != n || backCode != impl.ErrNone || (impl.BlockText(after) == switchText) != (n%2 == 0) {
			t.Errorf("%d edits give %q, %d, %d and %+v, %d", n, impl.BlockText(after), code, at, back, backCode)
		}
	}
	for n := impl.MaxEdits + 1; n < 3*impl.MaxEdits; n++ {
		checkNoEdits(t, "possible edits", b, slices.Repeat([]impl.Edit{swap(u1Output, bigGate)}, n), impl.ErrLimit, -1)
		// The limit comes before edits that are not possible.
		for _, e := range []impl.Edit{{}, {Kind: 6}, unbuffer(), swap(0, 0), buffer(u1Input, invGate, "u1")} {
			checkNoEdits(t, "impossible edits", b, slices.Repeat([]impl.Edit{e}, n), impl.ErrLimit, -1)
		}
	}
	for i, bad := range invalidBlocks() {
		for _, n := range []int{0, 1, impl.MaxEdits, impl.MaxEdits + 1, 1000} {
			for _, e := range []impl.Edit{{}, swap(u1Output, bigGate), {Kind: 6}} {
				checkNoEdits(t, fmt.Sprint("invalid block ", i), bad, slices.Repeat([]impl.Edit{e}, n), impl.ErrInvalid, -1)
			}
		}
	}
}

// The first edit that is not possible decides, with its code and its index.
func TestFirstImpossibleEdit(t *testing.T) {
	b := switchBlock()
	list, _ := drawnEdits(b, impl.MaxEdits, rand.New(rand.NewSource(7)))
	for at := range list {
		for _, c := range []struct {
			e    impl.Edit
			code int64
		}{
			{impl.Edit{}, impl.ErrRange},
			{impl.Edit{Kind: 6}, impl.ErrRange},
			{impl.Edit{Kind: impl.EditSwap, Net: 1}, impl.ErrRange},
			{move(u1Output, 1, 0), impl.ErrState},
			{buffer(u1Input, invGate, "u1"), impl.ErrState},
			{swap(u1Output, andGate), impl.ErrState},
			{rewire(0, wire(nums(0), nums(0), nums(0))), impl.ErrState},
		} {
			checkNoEdits(t, fmt.Sprint("the edit ", at), b, withEdit(list, at, c.e), c.code, int64(at))
			// Another one behind it does not count, whatever its code is.
			if at+1 < len(list) {
				for _, behind := range []impl.Edit{{}, {Kind: 6}, buffer(u1Input, invGate, "")} {
					checkNoEdits(t, fmt.Sprint("the edits from ", at), b, withEdit(withEdit(list, at, c.e), at+1, behind), c.code, int64(at))
				}
			}
		}
	}
	// An edit that is possible in the block, but not behind another one, and the other way round.
	checkNoEdits(t, "a name twice", b, []impl.Edit{buffer(u1Input, invGate, "x"), buffer(u2First, invGate, "x")}, impl.ErrState, 1)
	checkNoEdits(t, "a place that moves", b, []impl.Edit{buffer(u1Input, invGate, "x"), buffer(inPlace+1, invGate, "y")}, impl.ErrState, 1)
	checkNoEdits(t, "a place too late", b, []impl.Edit{move(17, 0, 0), buffer(u1Input, invGate, "x")}, impl.ErrRange, 0)
	checkNoEdits(t, "an unbuffer too many", b, []impl.Edit{buffer(u1Input, invGate, "x"), unbuffer(), unbuffer()}, impl.ErrState, 2)
	checkNoEdits(t, "a net that is gone", b, []impl.Edit{buffer(u1Input, invGate, "x"), unbuffer(), move(u1Input, 6, 0)}, impl.ErrRange, 2)
}

// The limit of instances is reached within a list.
func TestLimitsOfInstancesInLists(t *testing.T) {
	b := switchBlock()
	var list []impl.Edit
	for i := len(b.Design.Instances); i < impl.MaxInstances; i++ {
		list = append(list, buffer(u2First, invGate, fmt.Sprint("b", i)))
	}
	after, code, at := impl.ApplyEdits(b, list)
	if code != impl.ErrNone || at != -1 || len(after.Design.Instances) != impl.MaxInstances {
		t.Errorf("ApplyEdits gives %q, %d, %d", impl.BlockText(after), code, at)
	}
	more := append(slices.Clone(list), buffer(u2First, invGate, "more"))
	checkNoEdits(t, "an instance too many", b, more, impl.ErrLimit, int64(len(list)))
	again, code, at := impl.ApplyEdits(b, append(append(slices.Clone(list), unbuffer()), more[len(list)]))
	if code != impl.ErrNone || at != -1 || len(again.Design.Instances) != impl.MaxInstances {
		t.Errorf("ApplyEdits gives %q, %d, %d", impl.BlockText(again), code, at)
	}
}

// withEdit returns a list of edits with another one in the place of one of them.
func withEdit(list []impl.Edit, i int, e impl.Edit) []impl.Edit {
	list = slices.Clone(list)
	list[i] = e
	return list
}
