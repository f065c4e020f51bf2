package tests

import (
	"fmt"
	"math/big"
	"math/rand"
	"testing"

	"loop.example/g00861/impl"
)

// The corners and blocks that the tests of layer 11 use, and the delays and slews of their links,
// which follow chapter 11 on their own.

func corner(cellEarly, cellLate, wireEarly, wireLate int64) impl.Corner {
	return impl.Corner{Name: "slow", CellEarly: cellEarly, CellLate: cellLate, WireEarly: wireEarly, WireLate: wireLate}
}

func plainCorner() impl.Corner {
	return corner(1000, 1000, 1000, 1000)
}

// spreadCorner has four factors that differ.
func spreadCorner() impl.Corner {
	return corner(950, 1100, 700, 1500)
}

func sampleCorners() []impl.Corner {
	return []impl.Corner{
		plainCorner(), spreadCorner(), corner(100, 5000, 100, 5000), corner(100, 100, 5000, 5000),
		corner(5000, 5000, 100, 100), corner(999, 1000, 1000, 1001), corner(1234, 4321, 333, 777),
	}
}

// factorsOf returns the factors of a corner, so that they can be changed.
func factorsOf(c *impl.Corner) []*int64 {
	return []*int64{&c.CellEarly, &c.CellLate, &c.WireEarly, &c.WireLate}
}

// invalidCorners are corners of which the name or a factor is wrong.
func invalidCorners() []impl.Corner {
	list := []impl.Corner{{}, {Name: "slow"}, corner(1001, 1000, 1000, 1000), corner(1000, 1000, 1001, 1000)}
	for _, name := range []string{"", "Slow", "1st", "ninechars"} {
		c := plainCorner()
		c.Name = name
		list = append(list, c)
	}
	for i := range 4 {
		for _, wrong := range nums(99, 5001, 0, -1000) {
			c := plainCorner()
			*factorsOf(&c)[i] = wrong
			list = append(list, c)
		}
	}
	return list
}

// rampBlock has an inverter u1 that drives u2, u3 and a port o. The delays and slews of its rising
// output depend on the slew and the load: u1 has the load 8, u2 20 and u3 0.
func rampBlock() impl.Block {
	ramp := withCaps(named("ramp", inverter()), 3)
	ramp.Arcs[0].Delay = []impl.Table{table(nums(0, 10), nums(4, 14), 10, 20, 30, 45), table(nums(0, 20), nums(0), 7, 28)}
	ramp.Arcs[0].Slew = []impl.Table{table(nums(5, 15), nums(0, 20), 100, 140, 200, 300), flat(9)}
	return impl.Block{
		Library: library(ramp),
		Design: impl.Design{
			Instances: []impl.Instance{inst("u1", 0, 0, 1), inst("u2", 0, 1, 2), inst("u3", 0, 1, 3)},
			Nets:      []string{"na", "nb", "nc", "nd"},
			Ports:     []impl.Port{inPort("a", 0), outPort("o", 1), outPort("p", 2)},
		},
		Wires: []impl.Wire{
			wire(nums(-1, 0), nums(0, 1000), nums(0, 1), 1),
			wire(nums(-1, 0, 0), nums(0, 500, 100), nums(1, 0, 1), 1, 2, 0),
			wire(nums(-1), nums(0), nums(20), 0),
			wire(nums(-1), nums(0), nums(0)),
		},
	}
}

// link returns the link of a block between two nodes.
func link(t *testing.T, b impl.Block, text string) int64 {
	t.Helper()
	return linksNamed(t, b, text)[0]
}

// drawnAxis returns an axis of 1 to 4 elements.
func drawnAxis(draw *rand.Rand, step int) []int64 {
	axis := nums(int64(draw.Intn(step)))
	for range draw.Intn(impl.MaxAxis) {
		axis = append(axis, axis[len(axis)-1]+1+int64(draw.Intn(step)))
	}
	return axis
}

// drawnTable returns a table whose values are at least least and have no pattern.
func drawnTable(draw *rand.Rand, least int64) impl.Table {
	drawn := table(drawnAxis(draw, 40), drawnAxis(draw, 300))
	for range len(drawn.Slews) * len(drawn.Loads) {
		drawn.Values = append(drawn.Values, least+int64(draw.Intn(100)))
	}
	return drawn
}

// tabled returns a block with other tables in each of its arcs.
func tabled(b impl.Block, seed int64) impl.Block {
	b = cloneBlock(b)
	draw := rand.New(rand.NewSource(seed))
	for _, cell := range b.Library.Cells {
		for i := range cell.Arcs {
			a := &cell.Arcs[i]
			least := int64(0)
			if len(a.Slew) == 0 {
				least = -50
			}
			for k := range a.Delay {
				a.Delay[k] = drawnTable(draw, least)
			}
			for k := range a.Slew {
				a.Slew[k] = drawnTable(draw, 0)
			}
		}
	}
	return b
}

// tabledBlocks are blocks whose tables have no pattern, with wires of all shapes.
func tabledBlocks() []wiredBlock {
	list := []wiredBlock{{"ramp", rampBlock()}, {"wide tables", widestBlock()}}
	for i, block := range handBlocks() {
		list = append(list, wiredBlock{block.name, tabled(block.b, int64(i))})
	}
	for i, shape := range []string{"chain", "star", "binary", "tree"} {
		for _, c := range []designCase{{"mixed design", pinLibrary(), mixedDesign()}, {"drawn design", pinLibrary(), drawnDesign(6, 2, 6)}} {
			b := drawnBlock(c, shape, 2*i+2)
			list = append(list, wiredBlock{c.name + " with " + shape, tabled(b, int64(100+i))})
		}
	}
	return list
}

// widestBlock has an inverter whose axes and values are as great as they can be.
func widestBlock() impl.Block {
	const far, most = impl.MaxAxisValue, mostValue
	wide := named("wide", inverter())
	wide.Arcs[0].Delay = []impl.Table{table(nums(0, 7, far-1, far), nums(0, far), most, 0, 3, most-1, 0, most, most, most), flat(most)}
	wide.Arcs[0].Slew = []impl.Table{table(nums(1, far), nums(2), most, 0), flat(most)}
	b := rampBlock()
	b.Library = library(wide)
	return b
}

// linkTimes is what the delay and the slew of a link depend on: the tables and the load for a link
// through a cell, and the delay of the node, in units of 0.001 picoseconds, for one along a wire.
type linkTimes struct {
	link        impl.Link
	delay, slew impl.Table
	load, wire  int64
}

// timesByChapter returns what the delay and the slew of each link of a valid block depend on.
func timesByChapter(b impl.Block) []linkTimes {
	var list []linkTimes
	spots := spotsOf(b.Library, b.Design)
	for _, link := range linksByChapter(b) {
		end, l := spots[link.To/2], linkTimes{link: link}
		if link.Kind == impl.LinkWire {
			l.wire = delayOf(b, end.net, b.Wires[end.net].Sink[link.Index])
		} else {
			a := b.Library.Cells[b.Design.Instances[end.instance].Cell].Arcs[link.Index]
			l.delay, l.slew, l.load = a.Delay[link.To%2], a.Slew[link.To%2], loadOf(b, end.net, 0)
		}
		list = append(list, l)
	}
	return list
}

// ofMode returns one of two values, of which the first one is early.
func ofMode(early, late, mode int64) int64 {
	return map[int64]int64{impl.Early: early, impl.Late: late}[mode]
}

// rounded returns an exact value that is rounded by a mode.
func rounded(v *big.Rat, mode int64) int64 {
	early, late := floorAndCeiling(v)
	return ofMode(early, late, mode)
}

func (l linkTimes) delayIn(c impl.Corner, slew, mode int64) int64 {
	plain, factor := rounded(big.NewRat(l.wire, 1000), mode), ofMode(c.WireEarly, c.WireLate, mode)
	if l.link.Kind == impl.LinkCell {
		plain, factor = rounded(exactValue(l.delay, slew, l.load), mode), ofMode(c.CellEarly, c.CellLate, mode)
	}
	return rounded(big.NewRat(plain*factor, 1000), mode)
}

func (l linkTimes) slewBehind(slew, mode int64) int64 {
	if l.link.Kind == impl.LinkCell {
		return rounded(exactValue(l.slew, slew, l.load), mode)
	}
	square := func(v int64) *big.Int { return new(big.Int).Mul(big.NewInt(v), big.NewInt(v)) }
	sum := square(1000 * slew)
	sum.Add(sum, square(2*l.wire))
	root := new(big.Int).Sqrt(sum).Int64() / 1000
	if mode == impl.Late && square(1000*root).Cmp(sum) < 0 {
		root++
	}
	return min(root, impl.MaxSlew)
}

// slewsNear are slews at which the delays and slews of a link turn, and others.
func (l linkTimes) slewsNear() []int64 {
	list := nums(0, 1, 17, 100, 4321, impl.MaxAxisValue, impl.MaxAxisValue+1, 500000, impl.MaxSlew-1, impl.MaxSlew)
	for _, axis := range [][]int64{l.delay.Slews, l.slew.Slews} {
		for _, v := range axis {
			list = append(list, max(v-1, 0), v, v+1, v+3)
		}
	}
	return list
}

// checkLinkDelay compares the delay of a link with what it must be.
func checkLinkDelay(t *testing.T, name string, b impl.Block, c impl.Corner, link, slew, mode, want, wantCode int64) {
	t.Helper()
	got, code := impl.LinkDelay(b, c, link, slew, mode)
	checkList(t, fmt.Sprintf("%s: LinkDelay(%v, %d, %d, %d)", name, c, link, slew, mode), nums(got), code, nums(want), wantCode)
}

// checkLinkSlew compares the slew of a link with what it must be.
func checkLinkSlew(t *testing.T, name string, b impl.Block, link, slew, mode, want, wantCode int64) {
	t.Helper()
	got, code := impl.LinkSlew(b, link, slew, mode)
	checkList(t, fmt.Sprintf("%s: LinkSlew(%d, %d, %d)", name, link, slew, mode), nums(got), code, nums(want), wantCode)
}

// checkBounds compares the bounds of a link with what they must be.
func checkBounds(t *testing.T, name string, b impl.Block, c impl.Corner, link int64, want impl.Span, wantCode int64) {
	t.Helper()
	got, code := impl.LinkDelayBounds(b, c, link)
	checkList(t, fmt.Sprintf("%s: LinkDelayBounds(%v, %d)", name, c, link), nums(got.Early, got.Late), code, nums(want.Early, want.Late), wantCode)
}

// checkStage compares the delay and the slew of a path with what they must be.
func checkStage(t *testing.T, name string, b impl.Block, c impl.Corner, links []int64, slew, mode, delay, behind, wantCode int64) {
	t.Helper()
	got, gotSlew, code := impl.StageDelay(b, c, links, slew, mode)
	checkList(t, fmt.Sprintf("%s: StageDelay(%v, %v, %d, %d)", name, c, links, slew, mode), nums(got, gotSlew), code, nums(delay, behind), wantCode)
}
