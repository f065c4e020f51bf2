package tests

import (
	"fmt"
	"slices"
	"testing"

	"loop.example/g00861/impl"
)

// LoopsOf and HasLoop.

func TestBlocksWithoutLoops(t *testing.T) {
	checkLoops(t, "zero", impl.Block{}, nil, nil)
	checkLoops(t, "zero", impl.Block{}, []int64{}, nil)
	checkLoops(t, "no design", impl.Block{Library: loopLibrary()}, nil, nil)
	checkLoops(t, "ports", blockFrom(designCase{"", impl.Library{}, ports(2, 3)}), nil, nil)
	checkLoops(t, "back", backBlock(), nil, nil)
	checkLoops(t, "fork", forkBlock(), nil, nil)
	checkLoops(t, "longest", longestBlock(), nil, nil)
	// The inverter drives itself, but has no arc.
	bare := library(named("bare", gate(nums(1, 0))))
	checkLoops(t, "no arc", blockFrom(designCase{"", bare, ring(1)}), nil, nil)
}

// An odd ring of inverters is one loop of both transitions, an even one is two loops.
func TestLoopsOfRings(t *testing.T) {
	checkLoops(t, "1 inverter", ringBlock(1), nil, [][]int64{{0, 1, 2, 3}})
	checkLoops(t, "2 inverters", ringBlock(2), nil, [][]int64{{0, 3, 5, 6}, {1, 2, 4, 7}})
	checkLoops(t, "3 inverters", ringBlock(3), nil, [][]int64{numbersTo(0, 11)})
	checkLoops(t, "4 inverters", ringBlock(4), nil, [][]int64{{0, 3, 5, 6, 8, 11, 13, 14}, {1, 2, 4, 7, 9, 10, 12, 15}})
	for n := 1; n <= 14; n++ {
		var rise, fall []int64
		for place := range int64(2 * n) {
			rise, fall = append(rise, 2*place), append(fall, 2*place+1)
		}
		checkLoops(t, fmt.Sprint("ring of the same ", n), sameRing(n), nil, [][]int64{rise, fall})
	}
	for n := 1; n <= 13; n += 2 {
		checkLoops(t, fmt.Sprint("odd ring of ", n), ringBlock(n), nil, [][]int64{numbersTo(0, int64(4*n-1))})
	}
}

// All transitions lead to all, so that the ring is one loop, of odd and of even length.
func TestLoopsOfBothTransitions(t *testing.T) {
	// The pin i1 of each gate belongs to a port.
	checkLoopTexts(t, "1 gate", bothRing(1), nil, "g0/i0:r g0/i0:f g0/y:r g0/y:f")
	checkLoopTexts(t, "2 gates", bothRing(2), nil, "g0/i0:r g0/i0:f g0/y:r g0/y:f g1/i0:r g1/i0:f g1/y:r g1/y:f")
}

// The loops come in the order of their smallest nodes, which lie in the first instances of the rings,
// whatever instances follow and whichever ring leads to the other one.
func TestLoopsOfTwoRings(t *testing.T) {
	checkLoopTexts(t, "apart", apartBlock(), nil,
		"u0/i0:r u0/y:r u3/i0:r u3/y:r", "u0/i0:f u0/y:f u3/i0:f u3/y:f",
		"u1/i0:r u1/y:r u2/i0:r u2/y:r", "u1/i0:f u1/y:f u2/i0:f u2/y:f")
	checkLoops(t, "apart", apartBlock(), nil, [][]int64{{0, 2, 12, 14}, {1, 3, 13, 15}, {4, 6, 8, 10}, {5, 7, 9, 11}})
	mixed := looped("a b c", "i same a b", "k not c c", "j same b a")
	checkLoopTexts(t, "mixed", mixed, nil, "i/i0:r i/y:r j/i0:r j/y:r", "i/i0:f i/y:f j/i0:f j/y:f", "k/i0:r k/i0:f k/y:r k/y:f")
	one := []string{"x/i0:r x/y:r y/i0:r y/y:r", "x/i0:f x/y:f y/i0:f y/y:f"}
	two := []string{"v/i1:r v/y:r z/i0:r z/y:r", "v/i1:f v/y:f z/i0:f z/y:f"}
	checkLoopTexts(t, "between", betweenBlock(), nil, append(slices.Clone(one), two...)...)
	checkLoopTexts(t, "backward", backwardBlock(), nil, append(slices.Clone(two), one...)...)
}

// Rings that share a gate are one loop, for each transition.
func TestLoopsOfSharedGates(t *testing.T) {
	for _, b := range []impl.Block{sharedBlock(), crossedBlock()} {
		checkLoopTexts(t, "shared", b, nil, "u/i0:r u/i1:r u/y:r v/i0:r v/y:r w/i0:r w/y:r", "u/i0:f u/i1:f u/y:f v/i0:f v/y:f w/i0:f w/y:f")
	}
	// An inverter in one of the rings joins the transitions.
	b := looped("a b c", "u join b c a", "v not a b", "w same a c")
	checkLoops(t, "an inverter", b, nil, [][]int64{numbersTo(0, 13)})
}

// The gate between two loops, and what leads to the first or comes from the last one, is on none.
func TestNodesBetweenLoops(t *testing.T) {
	for _, b := range []impl.Block{betweenBlock(), backwardBlock()} {
		loops, _ := impl.LoopsOf(b, nil)
		for _, text := range []string{"m/i0:r", "m/i0:f", "m/y:r", "m/y:f", "q:r", "q:f", "x/i1:r", "v/i0:f"} {
			for _, loop := range loops {
				if slices.Contains(loop, node(t, b, text)) {
					t.Errorf("%s is on the loop %v", text, loop)
				}
			}
		}
	}
	// With a way back, all are on one loop for each transition, save the port.
	checkLoops(t, "falling", fallingBlock(), nil, [][]int64{evenTo(26), oddTo(27)})
}

func evenTo(last int64) []int64 {
	return slices.DeleteFunc(numbersTo(0, last), func(n int64) bool { return n%2 == 1 })
}

func oddTo(last int64) []int64 {
	return slices.DeleteFunc(numbersTo(0, last), func(n int64) bool { return n%2 == 0 })
}

// A latch leads from its data and from its clock pin to its output, a flop from its clock pin only,
// and only from one edge of it. The ring leads through the inverter v.
func TestLoopsThroughLatchesAndFlops(t *testing.T) {
	checkLoopTexts(t, "data of a latch, inverted", fedBackBlock(heldCell, 0), nil, "s/d0:r s/q:f v/i0:f v/y:r", "s/d0:f s/q:r v/i0:r v/y:f")
	checkLoopTexts(t, "data of a latch", fedBackBlock(heldCell, 1), nil, "s/d1:r s/d1:f s/q:r s/q:f v/i0:r v/i0:f v/y:r v/y:f")
	checkLoopTexts(t, "clock of a latch", fedBackBlock(heldCell, 2), nil, "s/g:r s/q:f v/i0:f v/y:r")
	checkLoopTexts(t, "clock of a rising flop", fedBackBlock(riseCell, 1), nil, "s/ck:r s/q:f v/i0:f v/y:r")
	checkLoopTexts(t, "clock of a falling flop", fedBackBlock(fallCell, 1), nil, "s/ck:f s/q:r v/i0:r v/y:f")
	for _, cell := range []int64{riseCell, fallCell} {
		for _, pin := range []int{0, 2} {
			checkLoops(t, "data of a flop", fedBackBlock(cell, pin), nil, nil)
		}
	}
}

func TestLoopsWithoutBrokenLinks(t *testing.T) {
	b := apartBlock()
	checkLoopTexts(t, "the first rise cut", b, linksNamed(t, b, "u0/i0:r u0/y:r"),
		"u0/i0:f u0/y:f u3/i0:f u3/y:f", "u1/i0:r u1/y:r u2/i0:r u2/y:r", "u1/i0:f u1/y:f u2/i0:f u2/y:f")
	checkLoopTexts(t, "the second fall cut", b, linksNamed(t, b, "u2/y:f u1/i0:f"),
		"u0/i0:r u0/y:r u3/i0:r u3/y:r", "u0/i0:f u0/y:f u3/i0:f u3/y:f", "u1/i0:r u1/y:r u2/i0:r u2/y:r")
	checkLoops(t, "all broken", b, numbersTo(0, 15), nil)
	// The links to and from the gate between the loops cut none.
	b = betweenBlock()
	whole, _ := impl.LoopsOf(b, nil)
	cut := linksNamed(t, b, "x/y:r m/i0:r", "m/i0:r m/y:r", "m/y:f v/i0:f", "q:r x/i1:r", "v/i0:f v/y:f")
	checkLoops(t, "none cut", b, cut, whole)
	// Without one ring, what they shared is on the loop of the other one.
	b = sharedBlock()
	checkLoopTexts(t, "one ring cut", b, linksNamed(t, b, "v/i0:r v/y:r", "u/y:f w/i0:f"),
		"u/i0:f u/y:f v/i0:f v/y:f", "u/i1:r u/y:r w/i0:r w/y:r")
	b = fallingBlock()
	checkLoopTexts(t, "in two parts", b, linksNamed(t, b, "k/i0:r k/y:r", "m/y:f v/i0:f"),
		"x/i0:r x/y:r y/i0:r y/y:r", "x/i0:f x/y:f y/i0:f y/y:f", "v/i1:r v/y:r z/i0:r z/y:r", "v/i1:f v/y:f z/i0:f z/y:f")
}

func TestLoopsOfTheFullBlock(t *testing.T) {
	b := fullBlock()
	if nodes, links := impl.NodeCount(b), len(linksByChapter(b)); nodes != 2*(14*5+8) || links != 14*16+2*14*4 {
		t.Fatalf("the full block has %d nodes and %d links", nodes, links)
	}
	// All but the pins that the ports drive and the ports.
	var want []int64
	for i := range int64(14 * 5) {
		if i/5 >= 8 || i%5 != i/5%4 {
			want = append(want, 2*i, 2*i+1)
		}
	}
	checkLoops(t, "full", b, nil, [][]int64{want})
	for _, broken := range brokenLists(336) {
		checkLoops(t, "full", b, broken, modelOf(b, broken).loops())
	}
}

func TestLoopsOfBlocks(t *testing.T) {
	with, none := 0, 0
	for _, block := range loopBlocks() {
		for _, broken := range cutLists(block.b) {
			want := modelOf(block.b, broken).loops()
			checkLoops(t, block.name, block.b, broken, want)
			if len(want) > 0 {
				with++
			} else {
				none++
			}
		}
	}
	if with < 100 || none < 100 {
		t.Errorf("only %d lists leave a loop and %d none", with, none)
	}
}

func TestLoopsOfDrawnBlocks(t *testing.T) {
	for i, b := range sampleBlocks() {
		for _, broken := range [][]int64{nil, breaksByChapter(b), brokenLists(len(linksByChapter(b)))[2+i%4%max(1, len(linksByChapter(b)))]} {
			checkLoops(t, fmt.Sprint("sample ", i), b, broken, modelOf(b, broken).loops())
		}
	}
}

// Every link alone is broken.
func TestLoopsWithoutOneLink(t *testing.T) {
	for _, block := range loopBlocks() {
		for link := range linksByChapter(block.b) {
			broken := nums(int64(link))
			checkLoops(t, block.name, block.b, broken, modelOf(block.b, broken).loops())
		}
	}
}

// There is a loop exactly if there is no topological order, and its nodes are those that reach
// themselves over one of their links.
func TestLoopsAndOrders(t *testing.T) {
	for _, block := range loopBlocks() {
		for _, broken := range brokenLists(len(linksByChapter(block.b))) {
			loops, _ := impl.LoopsOf(block.b, broken)
			_, code := impl.TopologicalOrder(block.b, broken)
			if (len(loops) > 0) != (code == impl.ErrLoop) {
				t.Errorf("%s without %v: the loops are %v, the code of the order is %d", block.name, broken, loops, code)
			}
			for _, loop := range loops {
				out, _ := impl.FanOut(block.b, broken, loop[0])
				into, _ := impl.FanIn(block.b, broken, loop[0])
				both := slices.DeleteFunc(out, func(node int64) bool { return !slices.Contains(into, node) })
				checkNumbers(t, block.name+": a loop", loop, both...)
			}
		}
	}
}
