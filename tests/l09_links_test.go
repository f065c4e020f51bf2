package tests

import (
	"fmt"
	"slices"
	"strings"
	"testing"

	"loop.example/g00861/impl"
)

// The links of blocks, and the links from and to nodes.

// checkLinks compares LinksOf with the links that a block must have.
func checkLinks(t *testing.T, name string, b impl.Block, want []impl.Link) {
	t.Helper()
	got, code := impl.LinksOf(b)
	if code != impl.ErrNone || !slices.Equal(got, want) {
		t.Errorf("%s: LinksOf gives %v, %d; want %v", name, got, code, want)
	}
}

// textOfLinks returns the texts of links, in the form of arcLinks.
func textOfLinks(b impl.Block, links []impl.Link) string {
	text, kinds := "", []string{"none", "cell", "wire"}
	for _, l := range links {
		text += fmt.Sprintln(impl.NodeText(b, l.From), impl.NodeText(b, l.To), kinds[l.Kind], l.Index)
	}
	return text
}

func TestLinksOfAllKinds(t *testing.T) {
	b := arcBlock()
	links, code := impl.LinksOf(b)
	if got := textOfLinks(b, links); code != impl.ErrNone || got != arcLinks {
		t.Errorf("LinksOf gives %d and\n%s; want\n%s", code, got, arcLinks)
	}
}

// The numbers of the nodes of a block, apart from their texts.
func TestLinksOfTwoInverters(t *testing.T) {
	const cell, wire = impl.LinkCell, impl.LinkWire
	checkLinks(t, "back", backBlock(), []impl.Link{
		{From: 0, To: 3, Kind: cell}, {From: 1, To: 2, Kind: cell},
		{From: 4, To: 7, Kind: cell}, {From: 5, To: 6, Kind: cell},
		{From: 8, To: 4, Kind: wire}, {From: 9, To: 5, Kind: wire},
		{From: 6, To: 0, Kind: wire}, {From: 7, To: 1, Kind: wire},
		{From: 2, To: 10, Kind: wire}, {From: 3, To: 11, Kind: wire},
	})
}

func TestLinksOfPorts(t *testing.T) {
	const wire = impl.LinkWire
	checkLinks(t, "an input port", blockFrom(designCase{"", impl.Library{}, ports(1, 0)}), nil)
	checkLinks(t, "three ports", blockFrom(designCase{"", impl.Library{}, ports(1, 2)}), []impl.Link{
		{From: 0, To: 2, Kind: wire}, {From: 1, To: 3, Kind: wire},
		{From: 0, To: 4, Kind: wire, Index: 1}, {From: 1, To: 5, Kind: wire, Index: 1},
	})
}

func TestBlocksWithoutLinks(t *testing.T) {
	checkLinks(t, "zero", impl.Block{}, nil)
	checkLinks(t, "no design", impl.Block{Library: arcLibrary()}, nil)
	checkLinks(t, "empty lists", impl.Block{Wires: []impl.Wire{}, Design: impl.Design{Nets: []string{}}}, nil)
	// A gate without arcs, whose input is a port.
	bare := library(named("bare", gate(nums(0, 1))))
	d := impl.Design{Instances: []impl.Instance{inst("u", 0, 0, 1)}, Nets: []string{"n", "m"}, Ports: []impl.Port{inPort("i", 0)}}
	links, _ := impl.LinksOf(blockFrom(designCase{"", bare, d}))
	if len(links) != 2 || links[0].Kind != impl.LinkWire || links[1].Kind != impl.LinkWire {
		t.Errorf("a gate without arcs has the links %v", links)
	}
}

func TestLinksOfBlocks(t *testing.T) {
	for _, block := range append(graphBlocks(), wiredBlocks()...) {
		checkLinks(t, block.name, block.b, linksByChapter(block.b))
	}
	checkLinks(t, "longest", longestBlock(), linksByChapter(longestBlock()))
}

// The wires of a block and the values of its tables do not matter to its links.
func TestLinksDoNotDependOnWires(t *testing.T) {
	b := arcBlock()
	want := linksByChapter(b)
	for net, w := range b.Wires {
		b.Wires[net] = wireFor(len(w.Sink), net+5)
	}
	for i := range b.Library.Cells {
		for k := range b.Library.Cells[i].Arcs {
			b.Library.Cells[i].Arcs[k].Delay = []impl.Table{flat(777), flat(0)}
		}
	}
	checkLinks(t, "other wires", b, want)
}

func TestLinksOfInvalidBlocks(t *testing.T) {
	for i, b := range brokenBlocks() {
		links, code := impl.LinksOf(b)
		if code != impl.ErrInvalid || len(links) != 0 {
			t.Errorf("invalid block %d: LinksOf gives %v, %d", i, links, code)
		}
	}
}

// The first links of arcBlock lead through the cell m, those from 22 to 27 from the port a.
func TestLinksAtNodes(t *testing.T) {
	b := arcBlock()
	node := func(text string) int64 { return int64(slices.Index(nodesByChapter(b), text)) }
	for _, c := range []struct {
		node     string
		from, to []int64
		broken   []int64
	}{
		{"m/i0:r", nums(2, 3), nums(22), nil},
		{"m/i0:f", nums(4, 5), nums(23), nil},
		{"m/y:r", nums(32, 34, 36), nums(0, 2, 4, 7), nil},
		{"m/y:f", nums(33, 35, 37), nums(1, 3, 5, 6), nil},
		{"m/y:r", nums(32, 36), nums(2, 7), nums(0, 4, 34)},
		{"m/y:r", nil, nums(0, 2, 4, 7), nums(32, 34, 36)},
		{"m/y:r", nums(32, 34, 36), nil, nums(0, 2, 4, 7)},
		{"m/y:r", nums(32, 34, 36), nums(0, 2, 4, 7), nums(1, 3, 5, 6, 33, 35, 37)},
		{"m/y:r", nil, nil, numbersTo(0, 53)},
		{"a:r", nums(22, 24, 26), nil, nil},
		{"a:f", nums(23, 25, 27), nil, nil},
		{"o:r", nil, nums(44), nil},
		{"l/q:r", nums(42), nums(12, 14, 17), nil},
		{"r/ck:r", nums(8, 9), nums(48), nil},
		{"r/ck:f", nil, nums(49), nil},
		{"f/ck:r", nil, nums(50), nil},
		{"f/ck:f", nums(10, 11), nums(51), nil},
		{"r/d0:r", nil, nums(32), nil},
		{"f/q:f", nil, nums(11), nil},
		{"i2/y:r", nums(46), nums(21), nil},
		{"i2/i0:r", nums(20), nums(46), nil},
	} {
		name := fmt.Sprintf("%s without %v", c.node, c.broken)
		checkCone(t, name+", LinksFrom", b, impl.LinksFrom, c.broken, node(c.node), c.from...)
		checkCone(t, name+", LinksTo", b, impl.LinksTo, c.broken, node(c.node), c.to...)
	}
}

// No node has links of both kinds from it or to it: those through cells lead from inputs to outputs,
// and those along wires from drivers to sinks. The output of a cell has both, one to it and one from it.
func TestKindsOfLinksAtNodes(t *testing.T) {
	for _, block := range graphBlocks() {
		links := linksByChapter(block.b)
		for node, s := range spotsOf(block.b.Library, block.b.Design) {
			to, _ := impl.LinksTo(block.b, nil, int64(2*node))
			from, _ := impl.LinksFrom(block.b, nil, int64(2*node))
			name := fmt.Sprint(block.name, ", ", s.name)
			checkKinds(t, name, links, from, s.drives)
			checkKinds(t, name, links, to, !s.drives)
		}
	}
}

// checkKinds looks whether links lead all along wires, or all through cells.
func checkKinds(t *testing.T, name string, links []impl.Link, list []int64, wires bool) {
	t.Helper()
	for _, link := range list {
		if (links[link].Kind == impl.LinkWire) != wires {
			t.Errorf("%s: the link %d is %v", name, link, links[link])
		}
	}
}

func TestNodeCounts(t *testing.T) {
	for _, block := range append(graphBlocks(), wiredBlocks()...) {
		checkNumbers(t, block.name+": NodeCount", nums(impl.NodeCount(block.b)), int64(len(nodesByChapter(block.b))))
		checkNumbers(t, block.name+": NodeCount", nums(impl.NodeCount(block.b)), 2*impl.PlaceCount(block.b.Library, block.b.Design))
	}
	checkNumbers(t, "NodeCount of the longest block", nums(impl.NodeCount(longestBlock())), 2*(5*14+1))
	for i, b := range brokenBlocks() {
		checkNumbers(t, fmt.Sprint("NodeCount of the invalid block ", i), nums(impl.NodeCount(b)), -1)
	}
}

func checkNode(t *testing.T, name string, b impl.Block, node int64, want string) {
	t.Helper()
	if got := impl.NodeText(b, node); got != want {
		t.Errorf("%s: NodeText(%d) = %q; want %q", name, node, got, want)
	}
}

func TestNodeTexts(t *testing.T) {
	words := strings.Fields(`u0/i0:r u0/i0:f u0/y:r u0/y:f u1/i0:r u1/i0:f u1/y:r u1/y:f in:r in:f o:r o:f`)
	for node, want := range words {
		checkNode(t, "back", backBlock(), int64(node), want)
	}
	for _, block := range append(graphBlocks(), wiredBlock{"longest", longestBlock()}) {
		texts := nodesByChapter(block.b)
		for node, want := range texts {
			checkNode(t, block.name, block.b, int64(node), want)
		}
		for _, node := range outside(len(texts)) {
			checkNode(t, block.name, block.b, node, "")
		}
	}
	for i, b := range brokenBlocks() {
		for _, node := range append(numbersTo(-2, 45), outside(38)...) {
			checkNode(t, fmt.Sprint("invalid block ", i), b, node, "")
		}
	}
}

// The links of a place and the nodes of a block have the numbers that chapter 5 gives to places.
func TestNodesFollowPlaces(t *testing.T) {
	b := arcBlock()
	for place := range impl.PlaceCount(b.Library, b.Design) {
		name := impl.PlaceName(b.Library, b.Design, place)
		checkNode(t, "arcs", b, 2*place+impl.Rise, name+":r")
		checkNode(t, "arcs", b, 2*place+impl.Fall, name+":f")
	}
}
