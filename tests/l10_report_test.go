package tests

import (
	"fmt"
	"strings"
	"testing"

	"loop.example/g00861/impl"
)

// LoopReport.

func checkReport(t *testing.T, name string, b impl.Block, want string) {
	t.Helper()
	if got, code := impl.LoopReport(b); got != want || code != impl.ErrNone {
		t.Errorf("%s: LoopReport gives %q, %d; want %q", name, got, code, want)
	}
}

func TestReportsWithoutLoops(t *testing.T) {
	checkReport(t, "zero", impl.Block{}, "")
	checkReport(t, "no design", impl.Block{Library: loopLibrary()}, "")
	checkReport(t, "ports", blockFrom(designCase{"", impl.Library{}, ports(1, 1)}), "")
	checkReport(t, "back", backBlock(), "")
	checkReport(t, "data of a flop", fedBackBlock(riseCell, 2), "")
}

// The links lead through cells, so that the nodes are those of pins, in blocks with ports, too.
func TestReportsOfLoops(t *testing.T) {
	checkReport(t, "1 inverter", ringBlock(1), "break u0/i0:f u0/y:r\n")
	checkReport(t, "2 inverters", ringBlock(2), "break u1/i0:r u1/y:f\nbreak u1/i0:f u1/y:r\n")
	checkReport(t, "the ring of 1", sameRing(1), "break u0/i0:r u0/y:r\nbreak u0/i0:f u0/y:f\n")
	checkReport(t, "clock of a flop", looped("a b", "v not b a", "s rise b a b b"), "break s/ck:r s/q:f\n")
	checkReport(t, "data of a latch", looped("a b c", "v not b a", "s held a c c b"), "break s/d0:r s/q:f\nbreak s/d0:f s/q:r\n")
	checkReport(t, "both", bothRing(1), "break g0/i0:r g0/y:r\nbreak g0/i0:f g0/y:r\nbreak g0/i0:f g0/y:f\n")
	checkReport(t, "arcs", arcBlock(), "break i2/i0:f i2/y:r\n")
}

// The lines come in the order of the links, not in that in which the links are broken.
func TestReportsOfSeveralLoops(t *testing.T) {
	checkReport(t, "falling", fallingBlock(), "break y/i0:r y/y:r\nbreak y/i0:f y/y:f\nbreak z/i0:r z/y:r\nbreak z/i0:f z/y:f\nbreak k/i0:r k/y:r\nbreak k/i0:f k/y:f\n")
	checkReport(t, "backward", backwardBlock(), "break z/i0:r z/y:r\nbreak z/i0:f z/y:f\nbreak y/i0:r y/y:r\nbreak y/i0:f y/y:f\n")
}

// Promise 9: the report has exactly one line for each link that the rule breaks, in order.
func TestReportsOfBlocks(t *testing.T) {
	blocks := append(loopBlocks(), wiredBlock{"full", fullBlock()})
	for i, b := range sampleBlocks() {
		blocks = append(blocks, wiredBlock{fmt.Sprint("sample ", i), b})
	}
	lines := map[int]bool{}
	for _, block := range blocks {
		links, _ := impl.LinksOf(block.b)
		broken, _ := impl.BreakLoops(block.b)
		want := ""
		for _, link := range broken {
			want += "break " + impl.NodeText(block.b, links[link].From) + " " + impl.NodeText(block.b, links[link].To) + "\n"
		}
		checkReport(t, block.name, block.b, want)
		lines[min(strings.Count(want, "\n"), 3)] = true
	}
	if len(lines) < 4 {
		t.Errorf("the reports have no, one, two and more lines: %v", lines)
	}
}
