package tests

import (
	"fmt"
	"slices"
	"strconv"
	"strings"
	"testing"

	"loop.example/g00861/impl"
)

// The blocks that the tests of layer 10 use, and their loops, which follow chapter 10 on their own.

// loopLibrary returns the cells of arcLibrary, a gate with the value of its input, and one that joins
// two inputs.
func loopLibrary() impl.Library {
	l := arcLibrary()
	l.Cells = append(l.Cells, named("same", gate(nums(0, 1), arc(impl.ArcComb, 0, 1, impl.SensePos))), named("join", and()))
	return l
}

// looped returns a block of loopLibrary with these nets. Each line is an instance: its name, its cell
// and the nets of its pins. A net that no instance drives has an input port with its name.
func looped(nets string, lines ...string) impl.Block {
	l, d := loopLibrary(), impl.Design{Nets: strings.Fields(nets)}
	driven := map[int64]bool{}
	for _, line := range lines {
		words := strings.Fields(line)
		next := inst(words[0], int64(slices.IndexFunc(l.Cells, func(c impl.Cell) bool { return c.Name == words[1] })))
		for _, net := range words[2:] {
			next.Nets = append(next.Nets, int64(slices.Index(d.Nets, net)))
		}
		driven[next.Nets[len(next.Nets)-1]] = true
		d.Instances = append(d.Instances, next)
	}
	for net, name := range d.Nets {
		if !driven[int64(net)] {
			d.Ports = append(d.Ports, inPort(name, int64(net)))
		}
	}
	return blockFrom(designCase{"", l, d})
}

// sameRing returns a ring of n gates that keep the value.
func sameRing(n int) impl.Block {
	var nets, lines []string
	for i := range n {
		nets = append(nets, "n"+strconv.Itoa(i))
		lines = append(lines, fmt.Sprintf("u%d same n%d n%d", i, i, (i+1)%n))
	}
	return looped(strings.Join(nets, " "), lines...)
}

// apartBlock has two rings, of u0 and u3 and of u1 and u2.
func apartBlock() impl.Block {
	return looped("a b c d", "u0 same a b", "u1 same c d", "u2 same d c", "u3 same b a")
}

// sharedBlock has two rings of the gate u, through v and through w.
func sharedBlock() impl.Block {
	return looped("a b c", "u join b c a", "v same a b", "w same a c")
}

// crossedBlock has two rings of the gate u like sharedBlock, but the one through v, to which the first
// link leads, comes to the second input of u.
func crossedBlock() impl.Block {
	return looped("a b c", "u join c b a", "v same a b", "w same a c")
}

// betweenBlock has a ring of x and y, a gate m behind it, and a ring of v and z behind this.
func betweenBlock() impl.Block {
	return looped("p q r s t w", "x join p q r", "y same r p", "m same r s", "v join s t w", "z same w t")
}

// backwardBlock is betweenBlock with the instances in another order: the ring of v and z comes first.
func backwardBlock() impl.Block {
	return looped("p q r s t w", "v join s t w", "z same w t", "m same r s", "x join p q r", "y same r p")
}

// fallingBlock has the rings of betweenBlock, with a gate k that leads back from the second one to the
// first one, so that all is one loop until the links of k are broken.
func fallingBlock() impl.Block {
	return looped("p q r s t w", "x join p q r", "y same r p", "v join s t w", "z same w t", "m same r s", "k same w q")
}

// nestedBlock has two rings of the gates u and s, the first one through v, and the other one without.
func nestedBlock() impl.Block {
	return looped("a b d", "u join b d a", "s same a d", "v same d b")
}

// shortBlock has two rings of the gate u: a long one, to which the smaller link leads, through v0 and
// v1, and a short one through w.
func shortBlock() impl.Block {
	return looped("a b c d", "u join c b a", "v0 same a d", "v1 same d b", "w same a c")
}

// lateForkBlock has two rings of x, u and y, which part behind x.
func lateForkBlock() impl.Block {
	return looped("a b c d e", "x same e a", "v same a b", "w same a c", "u join c b d", "y same d e")
}

// fullBlock returns a block with as many nodes and links as there can be: each gate is driven by the
// four next ones, and each input port drives one input instead.
func fullBlock() impl.Block {
	wide := gate(make([]int64, 16))
	for from := range int64(4) {
		wide.Arcs = append(wide.Arcs, arc(impl.ArcComb, from, 4, impl.SenseBoth))
	}
	var d impl.Design
	for i := range int64(impl.MaxInstances) {
		next := inst("u"+strconv.FormatInt(i, 10), 0)
		for k := range int64(4) {
			next.Nets = append(next.Nets, (i+k+1)%impl.MaxInstances)
		}
		d.Instances = append(d.Instances, inst(next.Name, 0, append(next.Nets, i)...))
		d.Nets = append(d.Nets, "n"+strconv.FormatInt(i, 10))
	}
	for i := range int64(impl.MaxPorts) {
		d.Nets = append(d.Nets, "p"+strconv.FormatInt(i, 10))
		d.Ports = append(d.Ports, inPort("p"+strconv.FormatInt(i, 10), impl.MaxInstances+i))
		d.Instances[i].Nets[i%4] = impl.MaxInstances + i
	}
	return blockFrom(designCase{"", library(named("wide", wide)), d})
}

// loopBlocks are the blocks above, apart from the full one, and those of layer 9.
func loopBlocks() []wiredBlock {
	list := append(handBlocks(), wiredBlock{"empty lists", impl.Block{Wires: []impl.Wire{}}})
	for _, n := range []int{1, 2, 3, 14} {
		list = append(list, wiredBlock{fmt.Sprint("ring of the same ", n), sameRing(n)})
	}
	return append(list,
		wiredBlock{"apart", apartBlock()},
		wiredBlock{"shared", sharedBlock()},
		wiredBlock{"crossed", crossedBlock()},
		wiredBlock{"between", betweenBlock()},
		wiredBlock{"backward", backwardBlock()},
		wiredBlock{"falling", fallingBlock()},
		wiredBlock{"nested", nestedBlock()},
		wiredBlock{"short", shortBlock()},
		wiredBlock{"late fork", lateForkBlock()},
	)
}

// node returns the node of a block with a text.
func node(t *testing.T, b impl.Block, text string) int64 {
	t.Helper()
	i := slices.Index(nodesByChapter(b), text)
	if i < 0 {
		t.Fatalf("there is no node %s", text)
	}
	return int64(i)
}

// linksNamed returns the links between nodes, strictly increasing. Each one is given by the texts of
// its nodes: "u/i0:r u/y:r". No two links have the same nodes.
func linksNamed(t *testing.T, b impl.Block, texts ...string) []int64 {
	t.Helper()
	var list []int64
	for _, text := range texts {
		ends := strings.Fields(text)
		from, to := node(t, b, ends[0]), node(t, b, ends[1])
		i := slices.IndexFunc(linksByChapter(b), func(l impl.Link) bool { return l.From == from && l.To == to })
		if i < 0 {
			t.Fatalf("there is no link %s", text)
		}
		list = append(list, int64(i))
	}
	slices.Sort(list)
	return list
}

// cutLists are lists of broken links of a block: those of brokenLists, all links of one kind, all of
// one transition, and those that the rule breaks, alone and with others.
func cutLists(b impl.Block) [][]int64 {
	links, breaks := linksByChapter(b), breaksByChapter(b)
	list := append(brokenLists(len(links)), breaks)
	for _, isCut := range []func(i int, l impl.Link) bool{
		func(i int, l impl.Link) bool { return l.Kind == impl.LinkCell },
		func(i int, l impl.Link) bool { return l.Kind == impl.LinkWire },
		func(i int, l impl.Link) bool { return l.From%2 == 0 },
		func(i int, l impl.Link) bool { return l.To%2 == 1 },
		func(i int, l impl.Link) bool { return i%3 == 0 || slices.Contains(breaks, int64(i)) },
	} {
		var cut []int64
		for i, link := range links {
			if isCut(i, link) {
				cut = append(cut, int64(i))
			}
		}
		list = append(list, cut)
	}
	return list
}

// loops returns the loops of the live links.
func (m model) loops() [][]int64 {
	var list [][]int64
	for node := range int64(len(m.nodes)) {
		class := m.nodesWith(func(other int64) bool { return m.leads[node][other] && m.leads[other][node] })
		if len(class) > 0 && class[0] == node {
			list = append(list, class)
		}
	}
	return list
}

// breaksByChapter returns the links that the rule of chapter 10 breaks.
func breaksByChapter(b impl.Block) []int64 {
	var broken []int64
	for {
		m := modelOf(b, broken)
		loops := m.loops()
		if len(loops) == 0 {
			slices.Sort(broken)
			return broken
		}
		last := -1
		for i, link := range m.links {
			if m.live[i] && link.Kind == impl.LinkCell && slices.Contains(loops[0], link.From) && slices.Contains(loops[0], link.To) {
				last = i
			}
		}
		broken = append(broken, int64(last))
	}
}

// isLoopFree reports whether all live links can be taken away, each one after all those that lead to
// where it begins.
func isLoopFree(links []impl.Link, broken []int64) bool {
	live := map[int]impl.Link{}
	for i, link := range links {
		if !slices.Contains(broken, int64(i)) {
			live[i] = link
		}
	}
	for {
		ends, before := map[int64]bool{}, len(live)
		for _, link := range live {
			ends[link.To] = true
		}
		for i, link := range live {
			if !ends[link.From] {
				delete(live, i)
			}
		}
		if len(live) == before {
			return before == 0
		}
	}
}

// without returns a list without one of its elements.
func without(list []int64, number int64) []int64 {
	return slices.DeleteFunc(slices.Clone(list), func(n int64) bool { return n == number })
}

// restoredByChapter returns the links that stay broken by chapter 10.
func restoredByChapter(links []impl.Link, broken []int64) []int64 {
	rest := broken
	for _, link := range broken {
		if isLoopFree(links, without(rest, link)) {
			rest = without(rest, link)
		}
	}
	return rest
}

// isMinimalByChapter reports whether a list of broken links is a minimal break by chapter 10.
func isMinimalByChapter(links []impl.Link, broken []int64) bool {
	return isLoopFree(links, broken) && !slices.ContainsFunc(broken, func(link int64) bool { return isLoopFree(links, without(broken, link)) })
}

// closedPath returns the first one of the shortest closed paths of a node, or nil if there is none.
func (m model) closedPath(node int64) []int64 {
	far := len(m.links) + 1
	steps := slices.Repeat([]int{far}, len(m.nodes))
	left := func(at int64) int {
		if at == node {
			return 0
		}
		return steps[at]
	}
	for isShorter := true; isShorter; {
		isShorter = false
		for i, link := range m.links {
			if m.live[i] && left(link.To)+1 < steps[link.From] {
				steps[link.From], isShorter = left(link.To)+1, true
			}
		}
	}
	if steps[node] == far {
		return nil
	}
	var path []int64
	at := node
	for n := steps[node] - 1; n >= 0; n-- {
		i := slices.IndexFunc(m.linksWith(at, fromOf), func(i int64) bool { return left(m.links[i].To) == n })
		path = append(path, m.linksWith(at, fromOf)[i])
		at = m.links[path[len(path)-1]].To
	}
	return path
}

// checkLoops compares LoopsOf and HasLoop with the loops that there must be.
func checkLoops(t *testing.T, name string, b impl.Block, broken []int64, want [][]int64) {
	t.Helper()
	got, code := impl.LoopsOf(b, broken)
	if code != impl.ErrNone || !slices.EqualFunc(got, want, slices.Equal) {
		t.Errorf("%s: LoopsOf(%v) gives %v, %d; want %v", name, broken, got, code, want)
	}
	has, code := impl.HasLoop(b, broken)
	if code != impl.ErrNone || has != (len(want) > 0) {
		t.Errorf("%s: HasLoop(%v) gives %v, %d; the loops are %v", name, broken, has, code, want)
	}
}

// checkLoopTexts compares LoopsOf and HasLoop with loops that are given by the texts of their nodes.
func checkLoopTexts(t *testing.T, name string, b impl.Block, broken []int64, texts ...string) {
	t.Helper()
	var want [][]int64
	for _, text := range texts {
		var loop []int64
		for word := range strings.FieldsSeq(text) {
			loop = append(loop, node(t, b, word))
		}
		want = append(want, loop)
	}
	checkLoops(t, name, b, broken, want)
}

// checkRemaining compares RestoreLinks with the links that must remain of a list that leaves no loop.
func checkRemaining(t *testing.T, name string, b impl.Block, broken []int64, want ...int64) {
	t.Helper()
	got, code := impl.RestoreLinks(b, broken)
	checkList(t, fmt.Sprintf("%s, RestoreLinks(%v)", name, broken), got, code, want, impl.ErrNone)
}

// checkNoneRemaining looks whether RestoreLinks answers with a code.
func checkNoneRemaining(t *testing.T, name string, b impl.Block, broken []int64, want int64) {
	t.Helper()
	got, code := impl.RestoreLinks(b, broken)
	checkList(t, fmt.Sprintf("%s, RestoreLinks(%v)", name, broken), got, code, nil, want)
}

func checkMinimal(t *testing.T, name string, b impl.Block, broken []int64, want bool) {
	t.Helper()
	if got, code := impl.IsMinimalBreak(b, broken); got != want || code != impl.ErrNone {
		t.Errorf("%s: IsMinimalBreak(%v) gives %v, %d; want %v", name, broken, got, code, want)
	}
}

// checkBreaks compares RestoreLinks and IsMinimalBreak with what they must answer.
func checkBreaks(t *testing.T, name string, b impl.Block, broken []int64) {
	t.Helper()
	links := linksByChapter(b)
	if isLoopFree(links, broken) {
		checkRemaining(t, name, b, broken, restoredByChapter(links, broken)...)
	} else {
		checkNoneRemaining(t, name, b, broken, impl.ErrLoop)
	}
	checkMinimal(t, name, b, broken, isMinimalByChapter(links, broken))
}
