package tests

import (
	"fmt"
	"slices"
	"testing"

	"loop.example/g00861/impl"
)

// BreakLoops.

// checkBroken compares BreakLoops with links.
func checkBroken(t *testing.T, name string, b impl.Block, want ...int64) {
	t.Helper()
	got, code := impl.BreakLoops(b)
	checkList(t, name+", BreakLoops", got, code, want, impl.ErrNone)
}

func TestNothingToBreak(t *testing.T) {
	checkBroken(t, "zero", impl.Block{})
	checkBroken(t, "no design", impl.Block{Library: loopLibrary()})
	checkBroken(t, "ports", blockFrom(designCase{"", impl.Library{}, ports(2, 3)}))
	checkBroken(t, "back", backBlock())
	checkBroken(t, "fork", forkBlock())
	checkBroken(t, "data of a flop", fedBackBlock(riseCell, 0))
}

// The last link through a cell is broken, and never one along a wire, though these have greater
// indices.
func TestBreaksOfRings(t *testing.T) {
	checkBroken(t, "1 inverter", ringBlock(1), 1)
	checkBroken(t, "2 inverters", ringBlock(2), 2, 3)
	checkBroken(t, "3 inverters", ringBlock(3), 5)
	checkBroken(t, "1 gate", sameRing(1), 0, 1)
	checkBroken(t, "14 gates", sameRing(14), 26, 27)
	// The greatest link of the loop is in u0: the ring of u1 goes through u0 alone.
	b := looped("a b c", "u0 same a a", "u1 same b c", "u2 same c b")
	checkBroken(t, "a ring before another one", b, linksNamed(t, b, "u0/i0:r u0/y:r", "u0/i0:f u0/y:f", "u2/i0:r u2/y:r", "u2/i0:f u2/y:f")...)
	for n := 1; n <= 13; n += 2 {
		checkBroken(t, fmt.Sprint("odd ring of ", n), ringBlock(n), int64(2*n-1))
	}
}

// Links that are greater than those of the loop, but lead only to it, from it or past it, stay.
func TestOnlyLinksInsideAreBroken(t *testing.T) {
	b := looped("a b c d", "u join a d b", "v same b a", "w same b c")
	checkBroken(t, "a gate behind the ring", b, linksNamed(t, b, "v/i0:r v/y:r", "v/i0:f v/y:f")...)
	b = looped("a b c d", "u join a d b", "v same b a", "w same c d")
	checkBroken(t, "a gate before the ring", b, linksNamed(t, b, "v/i0:r v/y:r", "v/i0:f v/y:f")...)
	// The links from the pin i1 of the last gate lead to a node of the ring, but come from a port.
	b = looped("a b c", "v same b a", "u join a c b")
	checkBroken(t, "a link to the ring", b, linksNamed(t, b, "u/i0:r u/y:r", "u/i0:f u/y:f")...)
	// Of the clock pin only one edge leads on, and only one of the links from it is on the loop.
	b = fedBackBlock(riseCell, 1)
	checkBroken(t, "clock of a flop", b, linksNamed(t, b, "v/i0:f v/y:r")...)
	b = looped("a b", "v not b a", "s rise b a b b")
	checkBroken(t, "clock of the last flop", b, linksNamed(t, b, "s/ck:r s/q:f")...)
}

// A loop of two rings needs two links. They are broken from the greatest one down, first those of the
// one transition, and come in increasing order.
func TestLoopsThatNeedSeveralLinks(t *testing.T) {
	b := sharedBlock()
	checkBroken(t, "shared", b, linksNamed(t, b, "v/i0:r v/y:r", "v/i0:f v/y:f", "w/i0:r w/y:r", "w/i0:f w/y:f")...)
	checkBroken(t, "shared", b, 4, 5, 6, 7)
	b = nestedBlock()
	checkBroken(t, "nested", b, linksNamed(t, b, "s/i0:r s/y:r", "s/i0:f s/y:f", "v/i0:r v/y:r", "v/i0:f v/y:f")...)
	// Without one link of the inverter, the one loop of both transitions falls into two, between which
	// its other link leads.
	b = looped("a b c", "u join b c a", "v same a b", "w not a c")
	checkBroken(t, "an inverter", b, linksNamed(t, b, "v/i0:r v/y:r", "v/i0:f v/y:f", "w/i0:f w/y:r")...)
}

// Without the links of k, the loop falls into the rings of x and y and of v and z.
func TestLoopsThatFallIntoTwo(t *testing.T) {
	b := fallingBlock()
	checkBroken(t, "falling", b, linksNamed(t, b, "k/i0:r k/y:r", "k/i0:f k/y:f", "y/i0:r y/y:r", "y/i0:f y/y:f", "z/i0:r z/y:r", "z/i0:f z/y:f")...)
	checkBroken(t, "falling", b, 4, 5, 10, 11, 14, 15)
}

// A link inside of one loop leaves the others.
func TestBreaksOfSeveralLoops(t *testing.T) {
	b := apartBlock()
	checkBroken(t, "apart", b, linksNamed(t, b, "u2/i0:r u2/y:r", "u2/i0:f u2/y:f", "u3/i0:r u3/y:r", "u3/i0:f u3/y:f")...)
	b = betweenBlock()
	checkBroken(t, "between", b, linksNamed(t, b, "y/i0:r y/y:r", "y/i0:f y/y:f", "z/i0:r z/y:r", "z/i0:f z/y:f")...)
	b = backwardBlock()
	checkBroken(t, "backward", b, linksNamed(t, b, "y/i0:r y/y:r", "y/i0:f y/y:f", "z/i0:r z/y:r", "z/i0:f z/y:f")...)
}

// One gate with links for all transitions: of its links on the loop, from 4 to 7, the last one goes
// first, and then those that are left of the loops r to f to r, r to r and f to f.
func TestBreaksOfBothTransitions(t *testing.T) {
	b := bothRing(1)
	checkBroken(t, "both", b, linksNamed(t, b, "g0/i0:r g0/y:r", "g0/i0:f g0/y:r", "g0/i0:f g0/y:f")...)
}

func TestBreaksOfBlocks(t *testing.T) {
	for _, block := range loopBlocks() {
		checkBroken(t, block.name, block.b, breaksByChapter(block.b)...)
	}
	for i, b := range sampleBlocks() {
		checkBroken(t, fmt.Sprint("sample ", i), b, breaksByChapter(b)...)
	}
	checkBroken(t, "full", fullBlock(), breaksByChapter(fullBlock())...)
}

// Promise 9: the rule leaves no loop, and each link that it breaks is one through a cell and was inside
// of a loop of the links that were live when it was broken.
func TestTheRuleLeavesNoLoop(t *testing.T) {
	for _, block := range append(loopBlocks(), wiredBlock{"full", fullBlock()}) {
		b, name := block.b, block.name
		list, code := impl.BreakLoops(b)
		if has, hasCode := impl.HasLoop(b, list); code != impl.ErrNone || hasCode != impl.ErrNone || has || !isLoopFree(linksByChapter(b), list) {
			t.Errorf("%s: BreakLoops gives %v, %d; HasLoop gives %v, %d", name, list, code, has, hasCode)
		}
		var broken []int64
		for range list {
			loops, _ := impl.LoopsOf(b, broken)
			broken = append(broken, nextBreak(t, name, b, broken, loops, list))
			slices.Sort(broken)
		}
		checkNumbers(t, name+": the links in the order of the rule", broken, list...)
	}
}

// nextBreak returns the greatest link of a list that is inside of the first loop and not broken yet.
func nextBreak(t *testing.T, name string, b impl.Block, broken []int64, loops [][]int64, list []int64) int64 {
	t.Helper()
	links := linksByChapter(b)
	for i := len(list) - 1; i >= 0 && len(loops) > 0; i-- {
		link := links[list[i]]
		isInside := slices.Contains(loops[0], link.From) && slices.Contains(loops[0], link.To)
		if isInside && link.Kind == impl.LinkCell && !slices.Contains(broken, list[i]) {
			return list[i]
		}
	}
	t.Errorf("%s: without %v no link of %v through a cell is inside of the first loop of %v", name, broken, list, loops)
	return -1
}
