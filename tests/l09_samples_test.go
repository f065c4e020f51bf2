package tests

import (
	"fmt"
	"math/rand"
	"slices"
	"strconv"
	"strings"
	"testing"

	"loop.example/g00861/impl"
)

// The blocks that the tests of layer 9 use, and their graphs, which follow chapter 9 on their own.

// The cells of arcLibrary.
const (
	notCell = iota
	mixCell
	riseCell
	fallCell
	heldCell
	bothCell
)

// arcLibrary returns a library of cells whose arcs do not stand in the order of their inputs and,
// in flops and latches, have checks between them.
func arcLibrary() impl.Library {
	mix := gate(make([]int64, 8), arc(impl.ArcComb, 2, 3, impl.SensePos), arc(impl.ArcComb, 0, 3, impl.SenseBoth), arc(impl.ArcComb, 1, 3, impl.SenseNeg))
	rise := flop(arc(impl.ArcHold, 1, 0, 0), arc(impl.ArcRise, 1, 3, 0), arc(impl.ArcSetup, 1, 2, 0))
	fall := flop(arc(impl.ArcSetup, 1, 2, 0), arc(impl.ArcHold, 1, 0, 0), arc(impl.ArcFall, 1, 3, 0))
	held := latch(arc(impl.ArcSetup, 2, 0, 0), arc(impl.ArcComb, 1, 3, impl.SensePos), arc(impl.ArcHold, 2, 1, 0), arc(impl.ArcRise, 2, 3, 0), arc(impl.ArcComb, 0, 3, impl.SenseNeg))
	return library(named("not", inverter()), named("mix", mix), named("rise", rise), named("fall", fall), named("held", held), named("both", xor()))
}

// wiredDesign returns a block of arcLibrary with a design.
func wiredDesign(d impl.Design) impl.Block {
	return blockFrom(designCase{"", arcLibrary(), d})
}

// arcBlock returns a block with all kinds of links, whose net nd leads back to the instance r, whose
// net ne has no sinks, and whose instance i2 is a loop.
func arcBlock() impl.Block {
	return wiredDesign(impl.Design{
		Instances: []impl.Instance{
			inst("m", mixCell, 0, 1, 0, 2),
			inst("r", riseCell, 2, 8, 3, 3),
			inst("f", fallCell, 3, 8, 2, 4),
			inst("l", heldCell, 2, 1, 8, 5),
			inst("i1", notCell, 5, 6),
			inst("i2", notCell, 7, 7),
		},
		Nets:  []string{"na", "nb", "nc", "nd", "ne", "nf", "ng", "nh", "ck"},
		Ports: []impl.Port{inPort("a", 0), outPort("o", 6), inPort("b", 1), inPort("clk", 8), outPort("o2", 0)},
	})
}

// arcLinks are the links of arcBlock: the nodes from which and to which they lead, what they lead
// through, and their Index.
const arcLinks = `m/i2:r m/y:r cell 0
m/i2:f m/y:f cell 0
m/i0:r m/y:r cell 1
m/i0:r m/y:f cell 1
m/i0:f m/y:r cell 1
m/i0:f m/y:f cell 1
m/i1:r m/y:f cell 2
m/i1:f m/y:r cell 2
r/ck:r r/q:r cell 1
r/ck:r r/q:f cell 1
f/ck:f f/q:r cell 2
f/ck:f f/q:f cell 2
l/d1:r l/q:r cell 1
l/d1:f l/q:f cell 1
l/g:r l/q:r cell 3
l/g:r l/q:f cell 3
l/d0:r l/q:f cell 4
l/d0:f l/q:r cell 4
i1/i0:r i1/y:f cell 0
i1/i0:f i1/y:r cell 0
i2/i0:r i2/y:f cell 0
i2/i0:f i2/y:r cell 0
a:r m/i0:r wire 0
a:f m/i0:f wire 0
a:r m/i2:r wire 1
a:f m/i2:f wire 1
a:r o2:r wire 2
a:f o2:f wire 2
b:r m/i1:r wire 0
b:f m/i1:f wire 0
b:r l/d1:r wire 1
b:f l/d1:f wire 1
m/y:r r/d0:r wire 0
m/y:f r/d0:f wire 0
m/y:r f/d1:r wire 1
m/y:f f/d1:f wire 1
m/y:r l/d0:r wire 2
m/y:f l/d0:f wire 2
r/q:r r/d1:r wire 0
r/q:f r/d1:f wire 0
r/q:r f/d0:r wire 1
r/q:f f/d0:f wire 1
l/q:r i1/i0:r wire 0
l/q:f i1/i0:f wire 0
i1/y:r o:r wire 0
i1/y:f o:f wire 0
i2/y:r i2/i0:r wire 0
i2/y:f i2/i0:f wire 0
clk:r r/ck:r wire 0
clk:f r/ck:f wire 0
clk:r f/ck:r wire 1
clk:f f/ck:f wire 1
clk:r l/g:r wire 2
clk:f l/g:f wire 2
`

// backBlock returns a block without loops of two inverters, of which the second one drives the first
// one.
func backBlock() impl.Block {
	return wiredDesign(impl.Design{
		Instances: []impl.Instance{inst("u0", notCell, 1, 2), inst("u1", notCell, 0, 1)},
		Nets:      []string{"n0", "n1", "n2"},
		Ports:     []impl.Port{inPort("in", 0), outPort("o", 2)},
	})
}

// forkBlock returns a block with two ways from a port a to a gate u, one of them through a gate v,
// and a port b beside them.
func forkBlock() impl.Block {
	return impl.Block{
		Library: library(named("same", gate(nums(0, 1), arc(impl.ArcComb, 0, 1, impl.SensePos))), named("and", and())),
		Design: impl.Design{
			Instances: []impl.Instance{inst("u", 1, 0, 1, 2), inst("v", 0, 0, 1)},
			Nets:      []string{"na", "nv", "nu", "nb"},
			Ports:     []impl.Port{inPort("a", 0), outPort("o", 2), inPort("b", 3), outPort("p", 3)},
		},
		Wires: []impl.Wire{wireFor(2, 0), wireFor(1, 1), wireFor(1, 2), wireFor(1, 3)},
	}
}

// fedBackBlock returns a block of an instance s of a cell with four pins, whose output leads through
// an inverter to its pin with the given index. A port drives its other pins, and another inverter
// that is not part of this.
func fedBackBlock(cell int64, pin int) impl.Block {
	s := inst("s", cell, 0, 0, 0, 1)
	s.Nets[pin] = 2
	return wiredDesign(impl.Design{
		Instances: []impl.Instance{s, inst("v", notCell, 1, 2), inst("w", notCell, 0, 3)},
		Nets:      []string{"na", "ns", "nv", "nw"},
		Ports:     []impl.Port{inPort("a", 0), outPort("o", 2), outPort("p", 3)},
	})
}

// bothRing returns a ring of n gates with links for all transitions, and a port at each of them.
func bothRing(n int) impl.Block {
	var d impl.Design
	for i := range n {
		d.Instances = append(d.Instances, inst("g"+strconv.Itoa(i), bothCell, int64(i), int64(n+i), int64((i+1)%n)))
	}
	for i := range 2 * n {
		d.Nets = append(d.Nets, "n"+strconv.Itoa(i))
	}
	for i := range n {
		d.Ports = append(d.Ports, inPort("p"+strconv.Itoa(i), int64(n+i)))
	}
	return wiredDesign(d)
}

// handBlocks are blocks with loops and without ones.
func handBlocks() []wiredBlock {
	list := append(editBlocks(), wiredBlock{"arcs", arcBlock()}, wiredBlock{"back", backBlock()}, wiredBlock{"fork", forkBlock()})
	for _, n := range []int{2, 3, 4, 14} {
		list = append(list, wiredBlock{"ring of " + strconv.Itoa(n), ringBlock(n)})
	}
	for _, n := range []int{1, 2, 5} {
		list = append(list, wiredBlock{"ring of both " + strconv.Itoa(n), bothRing(n)})
	}
	for _, cell := range []int64{mixCell, riseCell, fallCell, heldCell} {
		for pin := range 3 {
			list = append(list, wiredBlock{fmt.Sprintf("cell %d with its pin %d", cell, pin), fedBackBlock(cell, pin)})
		}
	}
	return list
}

// graphBlocks are the blocks above and drawn ones of all sizes.
func graphBlocks() []wiredBlock {
	list := handBlocks()
	for i, b := range sampleBlocks() {
		list = append(list, wiredBlock{"sample " + strconv.Itoa(i), b})
	}
	return list
}

// model is the graph of a valid block without some of its links, as chapter 9 tells it.
type model struct {
	nodes []string
	links []impl.Link
	live  []bool
	// leads tells from which node live links lead to which one, over one link or several.
	leads [][]bool
}

func modelOf(b impl.Block, broken []int64) model {
	m := model{nodes: nodesByChapter(b), links: linksByChapter(b)}
	m.leads = make([][]bool, len(m.nodes))
	for node := range m.leads {
		m.leads[node] = make([]bool, len(m.nodes))
	}
	for i, link := range m.links {
		isLive := !slices.Contains(broken, int64(i))
		m.live = append(m.live, isLive)
		if isLive {
			m.leads[link.From][link.To] = true
		}
	}
	m.close()
	return m
}

// close makes leads right for several links, if it is for one.
func (m model) close() {
	for by := range m.nodes {
		for _, from := range m.leads {
			if !from[by] {
				continue
			}
			for to, isNext := range m.leads[by] {
				from[to] = from[to] || isNext
			}
		}
	}
}

// nodesByChapter returns the texts of the nodes of a valid block.
func nodesByChapter(b impl.Block) []string {
	var list []string
	for _, s := range spotsOf(b.Library, b.Design) {
		list = append(list, s.name+":r", s.name+":f")
	}
	return list
}

// linksByChapter returns the links of a valid block.
func linksByChapter(b impl.Block) []impl.Link {
	var links []impl.Link
	spots := spotsOf(b.Library, b.Design)
	placeWith := func(is func(s spot) bool) int64 { return int64(slices.IndexFunc(spots, is)) }
	add := func(from, to int64, turns string, kind, index int) {
		for _, turn := range strings.Fields(turns) {
			link := impl.Link{From: 2 * from, To: 2 * to, Kind: int64(kind), Index: int64(index)}
			link.From += int64(strings.IndexByte("rf", turn[0]))
			link.To += int64(strings.IndexByte("rf", turn[1]))
			links = append(links, link)
		}
	}
	for i, instance := range b.Design.Instances {
		for k, a := range b.Library.Cells[instance.Cell].Arcs {
			from := placeWith(func(s spot) bool { return s.instance == int64(i) && s.pin == a.From })
			to := placeWith(func(s spot) bool { return s.instance == int64(i) && s.pin == a.To })
			add(from, to, turnsByChapter(a), impl.LinkCell, k)
		}
	}
	for net := range b.Design.Nets {
		driver := placeWith(func(s spot) bool { return s.drives && s.net == int64(net) })
		index := 0
		for place, s := range spots {
			if !s.drives && s.net == int64(net) {
				add(driver, int64(place), "rr ff", impl.LinkWire, index)
				index++
			}
		}
	}
	return links
}

// turnsByChapter returns the transitions that follow each other through an arc.
func turnsByChapter(a impl.Arc) string {
	switch a.Kind {
	case impl.ArcRise:
		return "rr rf"
	case impl.ArcFall:
		return "fr ff"
	case impl.ArcComb:
		return []string{impl.SensePos: "rr ff", impl.SenseNeg: "rf fr", impl.SenseBoth: "rr rf fr ff"}[a.Sense]
	}
	return ""
}

// order returns the topological order, and false if there is none.
func (m model) order() ([]int64, bool) {
	var list []int64
	before, listed := make([][]int64, len(m.nodes)), make([]bool, len(m.nodes))
	for i, link := range m.links {
		if m.live[i] {
			before[link.To] = append(before[link.To], link.From)
		}
	}
	isReady := func(from []int64) bool {
		return !slices.ContainsFunc(from, func(node int64) bool { return !listed[node] })
	}
	for range m.nodes {
		next := 0
		for next < len(m.nodes) && (listed[next] || !isReady(before[next])) {
			next++
		}
		if next == len(m.nodes) {
			return nil, false
		}
		listed[next] = true
		list = append(list, int64(next))
	}
	return list, true
}

// linksWith returns the live links of which a function tells the node.
func (m model) linksWith(node int64, of func(l impl.Link) int64) []int64 {
	var list []int64
	for i, link := range m.links {
		if m.live[i] && of(link) == node {
			list = append(list, int64(i))
		}
	}
	return list
}

// nodesWith returns the nodes of which a function holds.
func (m model) nodesWith(holds func(node int64) bool) []int64 {
	var list []int64
	for node := range int64(len(m.nodes)) {
		if holds(node) {
			list = append(list, node)
		}
	}
	return list
}

// hasLoop reports whether live links lead from some node back to it.
func (m model) hasLoop() bool {
	return len(m.nodesWith(func(node int64) bool { return m.leads[node][node] })) > 0
}

func fromOf(l impl.Link) int64 { return l.From }
func toOf(l impl.Link) int64   { return l.To }

// brokenLists are lists of broken links of a block with so many links: no and all links, the first
// and the last one, every second one, and others without a pattern.
func brokenLists(links int) [][]int64 {
	all := numbersTo(0, int64(links)-1)
	list := [][]int64{nil, {}, all}
	if links == 0 {
		return list
	}
	list = append(list, all[:1], all[links-1:], all[1:], all[:links/2], all[links/2:])
	draw := rand.New(rand.NewSource(int64(links)))
	for _, part := range []int{2, 5, 20} {
		drawn := slices.DeleteFunc(slices.Clone(all), func(int64) bool { return draw.Intn(part) > 0 })
		list = append(list, drawn)
	}
	return list
}

// checkCone compares an answer of FanOut or FanIn with what it must be.
func checkCone(t *testing.T, name string, b impl.Block, of func(impl.Block, []int64, int64) ([]int64, int64), broken []int64, node int64, want ...int64) {
	t.Helper()
	got, code := of(b, broken, node)
	checkList(t, name, got, code, want, impl.ErrNone)
}

// checkGraph compares all functions with a list of broken links with the model.
func checkGraph(t *testing.T, name string, b impl.Block, broken []int64) {
	t.Helper()
	name = fmt.Sprintf("%s without %v", name, broken)
	m := modelOf(b, broken)
	for node := range int64(len(m.nodes)) {
		at := fmt.Sprint(name, ", node ", node)
		checkCone(t, at+", LinksFrom", b, impl.LinksFrom, broken, node, m.linksWith(node, fromOf)...)
		checkCone(t, at+", LinksTo", b, impl.LinksTo, broken, node, m.linksWith(node, toOf)...)
		checkCone(t, at+", FanOut", b, impl.FanOut, broken, node, m.nodesWith(func(to int64) bool { return to == node || m.leads[node][to] })...)
		checkCone(t, at+", FanIn", b, impl.FanIn, broken, node, m.nodesWith(func(from int64) bool { return from == node || m.leads[from][node] })...)
	}
	checkOrder(t, name, b, broken, m)
}

// checkOrder compares TopologicalOrder with the model.
func checkOrder(t *testing.T, name string, b impl.Block, broken []int64, m model) {
	t.Helper()
	want, ok := m.order()
	code := int64(impl.ErrNone)
	if !ok {
		code = impl.ErrLoop
	}
	got, gotCode := impl.TopologicalOrder(b, broken)
	checkList(t, name+", TopologicalOrder", got, gotCode, want, code)
	if ok == m.hasLoop() {
		t.Errorf("%s: the model has an order: %v, and a loop: %v", name, ok, m.hasLoop())
	}
}
