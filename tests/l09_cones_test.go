package tests

import (
	"fmt"
	"slices"
	"testing"

	"loop.example/g00861/impl"
)

// Fan-out and fan-in.

// In back, in:r leads over u1/i0:r, u1/y:f, u0/i0:f and u0/y:r to o:r.
func TestConesOfAChain(t *testing.T) {
	b := backBlock()
	rise, fall := nums(8, 4, 7, 1, 2, 10), nums(9, 5, 6, 0, 3, 11)
	for _, way := range [][]int64{rise, fall} {
		for i, node := range way {
			checkCone(t, fmt.Sprint("FanOut of ", node), b, impl.FanOut, nil, node, slices.Sorted(slices.Values(way[i:]))...)
			checkCone(t, fmt.Sprint("FanIn of ", node), b, impl.FanIn, nil, node, slices.Sorted(slices.Values(way[:i+1]))...)
		}
	}
	all := numbersTo(0, 9)
	for node := range int64(12) {
		checkCone(t, "FanOut without links", b, impl.FanOut, all, node, node)
		checkCone(t, "FanIn without links", b, impl.FanIn, all, node, node)
	}
	// The link 7 leads from u1/y:f to u0/i0:f.
	checkCone(t, "FanOut of in:r", b, impl.FanOut, nums(7), 8, 4, 7, 8)
	checkCone(t, "FanIn of o:r", b, impl.FanIn, nums(7), 10, 1, 2, 10)
	checkCone(t, "FanOut of in:f", b, impl.FanOut, nums(7), 9, 0, 3, 5, 6, 9, 11)
}

// On a loop every node leads to every node, once.
func TestConesOnLoops(t *testing.T) {
	b := ringBlock(2)
	loops := [][]int64{{0, 3, 5, 6}, {1, 2, 4, 7}}
	links, _ := impl.LinksOf(b)
	for _, loop := range loops {
		for _, node := range loop {
			checkCone(t, "FanOut on a loop", b, impl.FanOut, nil, node, loop...)
			checkCone(t, "FanIn on a loop", b, impl.FanIn, nil, node, loop...)
		}
	}
	// Without the link that leads to it, a node begins a chain.
	for i, link := range links {
		loop := loops[slices.IndexFunc(loops, func(loop []int64) bool { return slices.Contains(loop, link.From) })]
		broken := nums(int64(i))
		checkCone(t, "FanOut at the beginning", b, impl.FanOut, broken, link.To, loop...)
		checkCone(t, "FanIn at the beginning", b, impl.FanIn, broken, link.To, link.To)
		checkCone(t, "FanOut at the end", b, impl.FanOut, broken, link.From, link.From)
		checkCone(t, "FanIn at the end", b, impl.FanIn, broken, link.From, loop...)
	}
}

// In fork, a:r leads to u/y:r and o:r over the links 6 and 0, and over 8, 4, 10 and 2.
func TestConesOfTwoWays(t *testing.T) {
	b := forkBlock()
	checkCone(t, "both ways", b, impl.FanOut, nil, 10, 0, 2, 4, 6, 8, 10, 12)
	checkCone(t, "the second way", b, impl.FanOut, nums(6), 10, 2, 4, 6, 8, 10, 12)
	checkCone(t, "the second way", b, impl.FanOut, nums(0), 10, 0, 2, 4, 6, 8, 10, 12)
	checkCone(t, "the first way", b, impl.FanOut, nums(8), 10, 0, 4, 10, 12)
	checkCone(t, "the first way", b, impl.FanOut, nums(4, 10), 10, 0, 4, 6, 10, 12)
	checkCone(t, "no way", b, impl.FanOut, nums(6, 8), 10, 10)
	checkCone(t, "no way", b, impl.FanOut, nums(0, 2), 10, 0, 2, 6, 8, 10)
	checkCone(t, "both ways", b, impl.FanIn, nil, 12, 0, 2, 4, 6, 8, 10, 12)
	checkCone(t, "the second way", b, impl.FanIn, nums(0), 12, 2, 4, 6, 8, 10, 12)
	checkCone(t, "the first way", b, impl.FanIn, nums(10), 12, 0, 2, 4, 10, 12)
	checkCone(t, "no way", b, impl.FanIn, nums(0, 2), 12, 4, 12)
	checkCone(t, "the other transition", b, impl.FanOut, nums(0, 2), 11, 1, 3, 5, 7, 9, 11, 13)
}

// In a ring of gates with links for all transitions, nodes are reached on two ways.
func TestConesOfBothTransitions(t *testing.T) {
	b := bothRing(2)
	// The pins 0 and 2 of both gates, in places 0, 2, 3 and 5, are on the ring.
	ring := nums(0, 1, 4, 5, 6, 7, 10, 11)
	for _, node := range ring {
		checkCone(t, "FanOut on the ring", b, impl.FanOut, nil, node, ring...)
		checkCone(t, "FanIn on the ring", b, impl.FanIn, nil, node, slices.Sorted(slices.Values(append(nums(2, 3, 8, 9, 12, 13, 14, 15), ring...)))...)
	}
	checkCone(t, "FanOut of a port", b, impl.FanOut, nil, 12, slices.Sorted(slices.Values(append(nums(2, 12), ring...)))...)
	checkCone(t, "FanIn of a port", b, impl.FanIn, nil, 12, 12)
	// The links from its pin 1 are 0 to 3, and 4 leads from its pin 0 to y on one of two ways.
	checkCone(t, "FanOut without one way", b, impl.FanOut, nums(0, 1, 2, 3, 4), 0, ring...)
}

func TestGraphsOfBlocks(t *testing.T) {
	for _, block := range handBlocks() {
		for _, broken := range brokenLists(len(linksByChapter(block.b))) {
			checkGraph(t, block.name, block.b, broken)
		}
	}
}

func TestGraphsOfDrawnBlocks(t *testing.T) {
	for i, b := range sampleBlocks() {
		lists := brokenLists(len(linksByChapter(b)))
		checkGraph(t, fmt.Sprint("sample ", i), b, nil)
		checkGraph(t, fmt.Sprint("sample ", i), b, lists[len(lists)-1-i%3])
	}
}

// Every link alone is broken, too.
func TestGraphsWithoutOneLink(t *testing.T) {
	for _, block := range []wiredBlock{{"back", backBlock()}, {"fork", forkBlock()}, {"ring", ringBlock(2)}, {"both", bothRing(1)}, {"latch", fedBackBlock(heldCell, 1)}} {
		for link := range linksByChapter(block.b) {
			checkGraph(t, block.name, block.b, nums(int64(link)))
		}
	}
}

// Promise 8: a node is in the fan-out of another one exactly if that one is in its fan-in.
func TestConesAreInverse(t *testing.T) {
	for _, block := range handBlocks() {
		b, nodes := block.b, impl.NodeCount(block.b)
		for _, broken := range brokenLists(len(linksByChapter(b))) {
			into := make([][]int64, nodes)
			for y := range nodes {
				into[y], _ = impl.FanIn(b, broken, y)
			}
			for x := range nodes {
				out, _ := impl.FanOut(b, broken, x)
				for y := range nodes {
					if slices.Contains(out, y) != slices.Contains(into[y], x) {
						t.Errorf("%s without %v: FanOut(%d) = %v, FanIn(%d) = %v", block.name, broken, x, out, y, into[y])
					}
				}
			}
		}
	}
}

// Promise 8: every live link is among those from its From and among those to its To, and among no
// others.
func TestLinksAreAtTheirNodes(t *testing.T) {
	for _, block := range handBlocks() {
		b := block.b
		links, _ := impl.LinksOf(b)
		for _, broken := range brokenLists(len(links)) {
			name := fmt.Sprint(block.name, " without ", broken)
			from, to := make([][]int64, len(links)), make([][]int64, len(links))
			for node := range impl.NodeCount(b) {
				out, _ := impl.LinksFrom(b, broken, node)
				into, _ := impl.LinksTo(b, broken, node)
				for _, link := range out {
					from[link] = append(from[link], node)
				}
				for _, link := range into {
					to[link] = append(to[link], node)
				}
			}
			for i, link := range links {
				if slices.Contains(broken, int64(i)) {
					checkNumbers(t, name+", a broken link", append(from[i], to[i]...))
					continue
				}
				checkNumbers(t, name+", the beginning of a link", from[i], link.From)
				checkNumbers(t, name+", the end of a link", to[i], link.To)
			}
		}
	}
}
