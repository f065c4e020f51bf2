package tests

import (
	"fmt"
	"strings"
	"testing"

	"loop.example/g00861/impl"
)

// A writer and a reader of texts of designs and blocks that follow chapter 6 on their own, and the
// blocks that the tests of layer 6 use.

var directionWords = []string{"", "in", "out"}

// sameDesigns compares all fields of designs, without regard to nil and empty lists.
func sameDesigns(a, b impl.Design) bool {
	return fmt.Sprintf("%+v", a) == fmt.Sprintf("%+v", b)
}

// sameBlocks compares all fields of blocks, without regard to nil and empty lists.
func sameBlocks(a, b impl.Block) bool {
	return fmt.Sprintf("%+v", a) == fmt.Sprintf("%+v", b)
}

// instanceText returns the line of an instance, without its newline.
func instanceText(l impl.Library, d impl.Design, i impl.Instance) string {
	text := "inst " + i.Name + " " + l.Cells[i.Cell].Name
	for _, net := range i.Nets {
		text += " " + d.Nets[net]
	}
	return text
}

// textOfDesign returns the text of a design, which may be one that is not valid, as long as all
// its indices are there.
func textOfDesign(l impl.Library, d impl.Design) string {
	text := ""
	for _, name := range d.Nets {
		text += "net " + name + "\n"
	}
	for _, p := range d.Ports {
		text += "port " + p.Name + " " + directionWords[p.Dir] + " " + d.Nets[p.Net] + "\n"
	}
	for _, i := range d.Instances {
		text += instanceText(l, d, i) + "\n"
	}
	return text
}

// textOfWire returns the lists of a wire.
func textOfWire(w impl.Wire) string {
	text := fmt.Sprint(w.Parent, "|", w.Res, "|", w.Cap, "|", w.Sink)
	return strings.NewReplacer("[", "", "]", "", " ", ",").Replace(strings.ReplaceAll(text, " | ", "|"))
}

// textOfBlock returns the text of a block whose indices are all there.
func textOfBlock(b impl.Block) string {
	text := textOfDesign(b.Library, b.Design)
	for net, w := range b.Wires {
		text += "wire " + b.Design.Nets[net] + " " + textOfWire(w) + "\n"
	}
	return text
}

// nameIn returns the place of a name among those that nameOf tells, or -1.
func nameIn(n int, nameOf func(i int) string, name string) int64 {
	for i := range n {
		if nameOf(i) == name {
			return int64(i)
		}
	}
	return -1
}

// addLine adds what a line of a design says, if it is one.
func addLine(l impl.Library, d *impl.Design, words []string) {
	netOf := func(name string) int64 {
		return nameIn(len(d.Nets), func(i int) string { return d.Nets[i] }, name)
	}
	switch {
	case words[0] == "net" && len(words) == 2:
		d.Nets = append(d.Nets, words[1])
	case words[0] == "port" && len(words) == 4:
		d.Ports = append(d.Ports, impl.Port{Name: words[1], Dir: placeOf(words[2], directionWords), Net: netOf(words[3])})
	case words[0] == "inst" && len(words) > 2:
		next := inst(words[1], nameIn(len(l.Cells), func(i int) string { return l.Cells[i].Name }, words[2]))
		for _, name := range words[3:] {
			next.Nets = append(next.Nets, netOf(name))
		}
		d.Instances = append(d.Instances, next)
	}
}

// designOfText returns the valid design with a text, and whether there is one.
func designOfText(l impl.Library, text string) (impl.Design, bool) {
	var d impl.Design
	for _, line := range linesOf(text) {
		addLine(l, &d, strings.Split(line, " "))
	}
	if !impl.IsDesign(l, d) || textOfDesign(l, d) != text {
		return impl.Design{}, false
	}
	return d, true
}

// blockOfText returns the valid block with a text, and whether there is one.
func blockOfText(l impl.Library, text string) (impl.Block, bool) {
	before, after := text, ""
	if i := strings.Index("\n"+text, "\nwire "); i >= 0 {
		before, after = text[:i], text[i:]
	}
	d, ok := designOfText(l, before)
	b := impl.Block{Library: l, Design: d}
	if after != "" {
		for _, line := range linesOf(after) {
			b.Wires = append(b.Wires, wireOfLine(line))
		}
	}
	if !ok || !impl.IsBlock(b) || textOfBlock(b) != text {
		return impl.Block{}, false
	}
	return b, true
}

// wireOfLine returns a wire that has the text at the end of a line, if there is one.
func wireOfLine(line string) impl.Wire {
	var lists [4][]int64
	for i, list := range strings.SplitN(line[strings.LastIndex(line, " ")+1:], "|", 4) {
		for _, word := range strings.Split(list, ",") {
			if word != "" {
				lists[i] = append(lists[i], numberOf(word))
			}
		}
	}
	return impl.Wire{Parent: lists[0], Res: lists[1], Cap: lists[2], Sink: lists[3]}
}

// checkDesignAnswer compares ReadDesign with what it must answer for a text.
func checkDesignAnswer(t *testing.T, l impl.Library, text string, want impl.Design, code int64) {
	t.Helper()
	if d, got := impl.ReadDesign(l, text); got != code || !sameDesigns(d, want) {
		t.Errorf("ReadDesign(%.300q) = %+v, %d; want %+v, %d", text, d, got, want, code)
	}
}

// checkNoDesign looks whether ReadDesign answers ErrSyntax for a text.
func checkNoDesign(t *testing.T, l impl.Library, text string) {
	t.Helper()
	checkDesignAnswer(t, l, text, impl.Design{}, impl.ErrSyntax)
}

// checkReadDesign compares ReadDesign with what chapter 6 says of a text that is not too long.
func checkReadDesign(t *testing.T, l impl.Library, text string) {
	t.Helper()
	if want, ok := designOfText(l, text); ok {
		checkDesignAnswer(t, l, text, want, impl.ErrNone)
	} else {
		checkNoDesign(t, l, text)
	}
}

// checkBlockAnswer compares ReadBlock with what it must answer for a text.
func checkBlockAnswer(t *testing.T, l impl.Library, text string, want impl.Block, code int64) {
	t.Helper()
	if b, got := impl.ReadBlock(l, text); got != code || !sameBlocks(b, want) {
		t.Errorf("ReadBlock(%.300q) = %+v, %d; want %+v, %d", text, b, got, want, code)
	}
}

// checkNoBlock looks whether ReadBlock answers ErrSyntax for a text.
func checkNoBlock(t *testing.T, l impl.Library, text string) {
	t.Helper()
	checkBlockAnswer(t, l, text, impl.Block{}, impl.ErrSyntax)
}

// checkReadBlock compares ReadBlock with what chapter 6 says of a text that is not too long.
func checkReadBlock(t *testing.T, l impl.Library, text string) {
	t.Helper()
	if want, ok := blockOfText(l, text); ok {
		checkBlockAnswer(t, l, text, want, impl.ErrNone)
	} else {
		checkNoBlock(t, l, text)
	}
}

// smallDesigns are designs with short texts: with lines of each kind, of ports alone and of an
// instance alone.
func smallDesigns() []designCase {
	l := library(named("g", gate(nums(0, 1))), named("n", gate(nums(1, 0))))
	d := impl.Design{Nets: []string{"a", "b"}, Ports: []impl.Port{inPort("i", 0), outPort("o", 1)}, Instances: []impl.Instance{inst("u", 1, 0, 1)}}
	return []designCase{{"each kind", l, d}, {"ports", impl.Library{}, ports(2, 1)}, {"an instance", l, impl.Design{Nets: []string{"n"}, Instances: []impl.Instance{inst("g", 0, 0, 0)}}}}
}

// wireFor returns a wire for a number of sinks: the number also decides the number of its nodes.
func wireFor(sinks, net int) impl.Wire {
	w := impl.Wire{Parent: nums(-1), Res: nums(0), Cap: nums(int64(net * 7 % 501))}
	for node := 1; node < 1+(sinks+net)%impl.MaxWireNodes; node++ {
		w.Parent = append(w.Parent, int64(node/2))
		w.Res = append(w.Res, int64(1000-node*net%1001))
		w.Cap = append(w.Cap, int64(node*73%501))
	}
	for node := 1; node < len(w.Parent); node++ {
		w.Parent[node] = min(w.Parent[node], int64(node-1))
	}
	for sink := range sinks {
		w.Sink = append(w.Sink, int64((sink+net)%len(w.Parent)))
	}
	return w
}

// blockFrom returns a block of a valid design, with a wire for each net.
func blockFrom(c designCase) impl.Block {
	b := impl.Block{Library: c.l, Design: c.d}
	sinks := make([]int, len(c.d.Nets))
	for _, s := range spotsOf(c.l, c.d) {
		if !s.drives {
			sinks[s.net]++
		}
	}
	for net, n := range sinks {
		b.Wires = append(b.Wires, wireFor(n, net))
	}
	return b
}
