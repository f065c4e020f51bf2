package tests

import (
	"fmt"
	"slices"
	"strings"
	"testing"

	"loop.example/g00861/impl"
)

// LoopPath.

// checkLoopPath compares LoopPath with a path.
func checkLoopPath(t *testing.T, name string, b impl.Block, broken []int64, node int64, want ...int64) {
	t.Helper()
	got, code := impl.LoopPath(b, broken, node)
	checkList(t, fmt.Sprintf("%s, LoopPath(%v, %d)", name, broken, node), got, code, want, impl.ErrNone)
}

// checkNoLoopPath looks whether LoopPath answers with a code.
func checkNoLoopPath(t *testing.T, name string, b impl.Block, broken []int64, node, want int64) {
	t.Helper()
	got, code := impl.LoopPath(b, broken, node)
	checkList(t, fmt.Sprintf("%s, LoopPath(%v, %d)", name, broken, node), got, code, nil, want)
}

// checkPathTexts compares LoopPath with the path over nodes that are given by their texts, from the
// first one back to it.
func checkPathTexts(t *testing.T, name string, b impl.Block, broken []int64, text string) {
	t.Helper()
	words, links := strings.Fields(text), []int64(nil)
	for i, word := range words {
		links = append(links, linksNamed(t, b, word+" "+words[(i+1)%len(words)])...)
	}
	checkLoopPath(t, name, b, broken, node(t, b, words[0]), links...)
}

func TestPathsOfRings(t *testing.T) {
	b := ringBlock(2)
	// The loops are 0, 7, 3, 4 and 1, 6, 2, 5.
	checkLoopPath(t, "2 inverters", b, nil, 0, 0, 7, 3, 4)
	checkLoopPath(t, "2 inverters", b, nil, 3, 7, 3, 4, 0)
	checkLoopPath(t, "2 inverters", b, nil, 5, 3, 4, 0, 7)
	checkLoopPath(t, "2 inverters", b, nil, 6, 4, 0, 7, 3)
	checkLoopPath(t, "2 inverters", b, nil, 1, 1, 6, 2, 5)
	checkLoopPath(t, "2 inverters", b, nil, 7, 5, 1, 6, 2)
	checkLoopPath(t, "2 inverters", b, nums(1, 2), 0, 0, 7, 3, 4)
	// An odd ring is gone round twice.
	checkPathTexts(t, "1 inverter", ringBlock(1), nil, "u0/i0:r u0/y:f u0/i0:f u0/y:r")
	checkPathTexts(t, "1 inverter", ringBlock(1), nil, "u0/y:f u0/i0:f u0/y:r u0/i0:r")
	checkPathTexts(t, "3 inverters", ringBlock(3), nil, "u1/y:r u2/i0:r u2/y:f u0/i0:f u0/y:r u1/i0:r u1/y:f u2/i0:f u2/y:r u0/i0:r u0/y:f u1/i0:f")
	checkPathTexts(t, "clock of a flop", fedBackBlock(riseCell, 1), nil, "v/y:r s/ck:r s/q:f v/i0:f")
}

// A node between loops and one on none of them belong to no loop.
func TestNodesWithoutPaths(t *testing.T) {
	b := betweenBlock()
	for _, text := range strings.Fields("m/i0:r m/i0:f m/y:r m/y:f x/i1:r v/i0:f q:r q:f") {
		checkNoLoopPath(t, "between", b, nil, node(t, b, text), impl.ErrState)
	}
	for node := range impl.NodeCount(backBlock()) {
		checkNoLoopPath(t, "back", backBlock(), nil, node, impl.ErrState)
	}
	// One of the edges of the clock pin leads nowhere.
	for _, text := range strings.Fields("s/ck:f s/q:r v/i0:r v/y:f s/d0:r a:r w/y:f o:r p:f") {
		checkNoLoopPath(t, "clock of a flop", fedBackBlock(riseCell, 1), nil, node(t, fedBackBlock(riseCell, 1), text), impl.ErrState)
	}
	for node := range int64(8) {
		checkNoLoopPath(t, "cut", ringBlock(2), nums(2, 3), node, impl.ErrState)
		checkNoLoopPath(t, "all broken", ringBlock(2), numbersTo(0, 7), node, impl.ErrState)
	}
}

// Of two paths of the same length the first link that differs decides, whatever follows.
func TestTheFirstLinkDecides(t *testing.T) {
	for _, b := range []impl.Block{sharedBlock(), crossedBlock()} {
		in := map[bool]string{true: "i0", false: "i1"}[slices.Equal(b.Design.Instances[0].Nets, nums(1, 2, 0))]
		checkPathTexts(t, "the way through v", b, nil, "u/y:r v/i0:r v/y:r u/"+in+":r")
		checkPathTexts(t, "the way through v", b, nil, "u/y:f v/i0:f v/y:f u/"+in+":f")
		checkPathTexts(t, "the other transition cut", b, linksNamed(t, b, "u/y:f v/i0:f"), "u/y:r v/i0:r v/y:r u/"+in+":r")
	}
	b := crossedBlock()
	checkPathTexts(t, "the way through w", b, linksNamed(t, b, "u/y:r v/i0:r"), "u/y:r w/i0:r w/y:r u/i0:r")
	checkPathTexts(t, "the way through w", b, linksNamed(t, b, "v/i0:r v/y:r"), "u/y:r w/i0:r w/y:r u/i0:r")
	checkPathTexts(t, "the way through w", b, linksNamed(t, b, "u/i1:r u/y:r"), "u/y:r w/i0:r w/y:r u/i0:r")
	// The paths have their first links in common.
	b = lateForkBlock()
	checkPathTexts(t, "late fork", b, nil, "x/i0:r x/y:r v/i0:r v/y:r u/i1:r u/y:r y/i0:r y/y:r")
	checkPathTexts(t, "late fork", b, nil, "u/y:f y/i0:f y/y:f x/i0:f x/y:f v/i0:f v/y:f u/i1:f")
	checkPathTexts(t, "late fork", b, linksNamed(t, b, "v/y:r u/i1:r"), "x/i0:r x/y:r w/i0:r w/y:r u/i0:r u/y:r y/i0:r y/y:r")
	checkPathTexts(t, "late fork", b, nil, "w/i0:r w/y:r u/i0:r u/y:r y/i0:r y/y:r x/i0:r x/y:r")
}

// A shorter path comes before one that begins with a smaller link, as long as none of its links is
// broken.
func TestShorterPaths(t *testing.T) {
	b := shortBlock()
	short, long := "u/y:r w/i0:r w/y:r u/i0:r", "u/y:r v0/i0:r v0/y:r v1/i0:r v1/y:r u/i1:r"
	checkPathTexts(t, "short", b, nil, short)
	checkPathTexts(t, "the long way cut", b, linksNamed(t, b, "v0/y:r v1/i0:r"), short)
	for _, link := range []string{"u/y:r w/i0:r", "w/i0:r w/y:r", "w/y:r u/i0:r", "u/i0:r u/y:r"} {
		checkPathTexts(t, "the short way cut", b, linksNamed(t, b, link), long)
	}
	checkNoLoopPath(t, "both cut", b, linksNamed(t, b, "u/i0:r u/y:r", "u/i1:r u/y:r"), node(t, b, "u/y:r"), impl.ErrState)
	// A node of the long way has no shorter one.
	checkPathTexts(t, "short", b, nil, "v1/i0:r v1/y:r u/i1:r u/y:r v0/i0:r v0/y:r")
	// Links for all transitions make a way round without change.
	checkPathTexts(t, "both", bothRing(1), nil, "g0/i0:f g0/y:f")
	checkPathTexts(t, "both", bothRing(1), linksNamed(t, bothRing(1), "g0/i0:f g0/y:f"), "g0/i0:f g0/y:r g0/i0:r g0/y:f")
	checkPathTexts(t, "both", bothRing(2), nil, "g1/y:f g0/i0:f g0/y:r g1/i0:r")
}

func TestTheNodesOfPaths(t *testing.T) {
	b := ringBlock(2)
	checkNoLoopPath(t, "the node -1", b, nil, -1, impl.ErrNotFound)
	checkLoopPath(t, "the last node", b, nil, 7, 5, 1, 6, 2)
	checkNoLoopPath(t, "one beyond it", b, nil, 8, impl.ErrNotFound)
	for _, block := range append(loopBlocks(), wiredBlock{"full", fullBlock()}, wiredBlock{"zero", impl.Block{}}) {
		for _, node := range outside(len(nodesByChapter(block.b))) {
			checkNoLoopPath(t, block.name, block.b, nil, node, impl.ErrNotFound)
			checkNoLoopPath(t, block.name, block.b, breaksByChapter(block.b), node, impl.ErrNotFound)
		}
	}
}

// checkPaths compares LoopPath at every node with the model.
func checkPaths(t *testing.T, name string, b impl.Block, broken []int64) {
	t.Helper()
	m := modelOf(b, broken)
	for node := range int64(len(m.nodes)) {
		if path := m.closedPath(node); path != nil {
			checkLoopPath(t, name, b, broken, node, path...)
		} else {
			checkNoLoopPath(t, name, b, broken, node, impl.ErrState)
		}
		if m.leads[node][node] != (m.closedPath(node) != nil) {
			t.Errorf("%s: the model has a path of %d: %v", name, node, m.closedPath(node))
		}
	}
}

func TestPathsOfBlocks(t *testing.T) {
	for _, block := range loopBlocks() {
		for _, broken := range brokenLists(len(linksByChapter(block.b))) {
			checkPaths(t, block.name, block.b, broken)
		}
	}
	for i, b := range sampleBlocks() {
		checkPaths(t, fmt.Sprint("sample ", i), b, nil)
	}
	for _, broken := range brokenLists(336) {
		checkPaths(t, "full", fullBlock(), broken)
	}
}

// A path is closed, and its links are live and inside of the loop of the node.
func TestPathsAreClosed(t *testing.T) {
	for _, block := range loopBlocks() {
		links := linksByChapter(block.b)
		for _, broken := range brokenLists(len(links)) {
			loops, _ := impl.LoopsOf(block.b, broken)
			for _, loop := range loops {
				for _, start := range loop {
					path, _ := impl.LoopPath(block.b, broken, start)
					at := start
					for _, i := range path {
						if links[i].From != at || slices.Contains(broken, i) || !slices.Contains(loop, links[i].To) {
							t.Errorf("%s without %v: the path %v of %d has the link %d", block.name, broken, path, start, i)
						}
						at = links[i].To
					}
					if at != start || len(path) == 0 || len(path) > len(loop) {
						t.Errorf("%s without %v: the path %v of %d ends at %d", block.name, broken, path, start, at)
					}
				}
			}
		}
	}
}
