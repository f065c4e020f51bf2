package tests

import (
	"fmt"
	"slices"
	"strconv"
	"testing"

	"loop.example/g00861/impl"
)

// The blocks and edits that the tests of layer 8 use.

// The cells of editLibrary.
const (
	invGate = iota
	bigGate
	andGate
	tickFlop
	riseFlop
	fallFlop
	lateFlop
	heldLatch
)

// editLibrary returns a library of cells of all kinds. Two gates and the first flop have two pins;
// the last four cells have four pins, of which the second one is the clock pin, save in lateFlop.
func editLibrary() impl.Library {
	tick := impl.Cell{Kind: impl.CellFlop, Pins: []impl.Pin{clock("ck"), out("q")}, Arcs: []impl.Arc{arc(impl.ArcRise, 0, 1, 0)}}
	late := flop(arc(impl.ArcRise, 2, 3, 0))
	late.Pins = []impl.Pin{in("d0"), in("d1"), clock("ck"), out("q")}
	held := impl.Cell{Kind: impl.CellLatch, Pins: flop().Pins, Arcs: []impl.Arc{arc(impl.ArcComb, 0, 3, impl.SensePos), arc(impl.ArcRise, 1, 3, 0)}}
	big := withCaps(named("big", inverter()), 9)
	big.Pins[0].Name, big.Pins[1].Name = "a", "z"
	return library(
		withCaps(named("inv", inverter()), 3),
		big,
		withCaps(named("and", and()), 5, 4),
		withCaps(named("tick", tick), 8),
		withCaps(named("rise", risingFlop()), 7, 11, 13),
		withCaps(named("fall", fallingFlop()), 17, 19, 23),
		withCaps(named("late", late), 29, 31, 37),
		withCaps(named("held", held), 41, 43, 47),
	)
}

// switchText is the text of switchBlock.
const switchText = `net n0
net n1
net n2
net n3
net n4
net ck
port in in n0
port ck in ck
port o1 out n2
port o2 out n4
port o3 out n1
inst u1 inv n0 n1
inst u2 and n1 n1 n2
inst ff rise n2 ck n1 n3
inst u4 inv n3 n4
wire n0 -1|0|3|0
wire n1 -1,0,1,1|0,100,200,300|1,2,4,8|3,1,3,0
wire n2 -1,0|0,500|0,9|1,0
wire n3 -1|0|0|0
wire n4 -1,0|0,7|5,6|1
wire ck -1|0|2|0
`

// The places of switchBlock.
const (
	u1Input = iota
	u1Output
	u2First
	u2Second
	u2Output
	ffFirst
	ffClock
	ffSecond
	ffOutput
	u4Input
	u4Output
	inPlace
	ckPlace
	o1Place
	o2Place
	o3Place
	switchPlaces
)

// switchBlock returns a block whose net n1 has four sinks, two of them at one node.
func switchBlock() impl.Block {
	return impl.Block{
		Library: editLibrary(),
		Design: impl.Design{
			Instances: []impl.Instance{inst("u1", invGate, 0, 1), inst("u2", andGate, 1, 1, 2), inst("ff", riseFlop, 2, 5, 1, 3), inst("u4", invGate, 3, 4)},
			Nets:      []string{"n0", "n1", "n2", "n3", "n4", "ck"},
			Ports:     []impl.Port{inPort("in", 0), inPort("ck", 5), outPort("o1", 2), outPort("o2", 4), outPort("o3", 1)},
		},
		Wires: []impl.Wire{
			wire(nums(-1), nums(0), nums(3), 0),
			wire(nums(-1, 0, 1, 1), nums(0, 100, 200, 300), nums(1, 2, 4, 8), 3, 1, 3, 0),
			wire(nums(-1, 0), nums(0, 500), nums(0, 9), 1, 0),
			wire(nums(-1), nums(0), nums(0), 0),
			wire(nums(-1, 0), nums(0, 7), nums(5, 6), 1),
			wire(nums(-1), nums(0), nums(2), 0),
		},
	}
}

// bufferBlock returns a block of an input port and an inverter, of which the first one drives the
// second one, with a buffer at its end.
func bufferBlock() impl.Block {
	return impl.Block{
		Library: editLibrary(),
		Design: impl.Design{
			Instances: []impl.Instance{inst("u1", invGate, 0, 1), inst("x", bigGate, 1, 2)},
			Nets:      []string{"n0", "n1", "x"},
			Ports:     []impl.Port{outPort("o", 2), inPort("in", 0)},
		},
		Wires: []impl.Wire{
			wire(nums(-1), nums(0), nums(3), 0),
			wire(nums(-1, 0), nums(0, 50), nums(1, 2), 1),
			wire(nums(-1), nums(0), nums(0), 0),
		},
	}
}

// ringBlock returns so many inverters, each of which drives the next one, over wires of two nodes.
func ringBlock(n int) impl.Block {
	b := impl.Block{Library: editLibrary(), Design: ring(n)}
	for net := range n {
		b.Wires = append(b.Wires, wire(nums(-1, 0), nums(0, int64(net)), nums(1, 2), int64(net%2)))
	}
	return b
}

// editBlocks are blocks of no, one and several instances.
func editBlocks() []wiredBlock {
	list := []wiredBlock{
		{"zero", impl.Block{}},
		{"no design", impl.Block{Library: editLibrary()}},
		{"switch", switchBlock()},
		{"buffer", bufferBlock()},
		{"one inverter", ringBlock(1)},
		{"ports", drawnBlock(designCase{"ports", editLibrary(), ports(2, 2)}, "star", 3)},
		{"branches", branchBlock()},
	}
	for _, at := range []int64{u2First, u4Input, o3Place} {
		list = append(list, wiredBlock{"buffer at " + strconv.Itoa(int(at)), editedBlock(switchBlock(), buffer(at, bigGate, "x"))})
	}
	return list
}

func swap(place, cell int64) impl.Edit {
	return impl.Edit{Kind: impl.EditSwap, Place: place, Cell: cell}
}

func buffer(place, cell int64, name string) impl.Edit {
	return impl.Edit{Kind: impl.EditBuffer, Place: place, Cell: cell, Name: name}
}

func unbuffer() impl.Edit {
	return impl.Edit{Kind: impl.EditUnbuffer}
}

func move(place, net, node int64) impl.Edit {
	return impl.Edit{Kind: impl.EditMove, Place: place, Net: net, Node: node}
}

func rewire(net int64, w impl.Wire) impl.Edit {
	return impl.Edit{Kind: impl.EditWire, Net: net, Wire: w}
}

// sameEdits compares all fields of edits, without regard to nil and empty lists.
func sameEdits(a, b impl.Edit) bool {
	return fmt.Sprintf("%+v", a) == fmt.Sprintf("%+v", b)
}

// editsNear returns edits of every kind of a valid block: all swaps, buffers of some names and moves,
// and some wires of each net, with numbers from one before the first to one beyond the last.
func editsNear(b impl.Block) []impl.Edit {
	list := []impl.Edit{unbuffer()}
	beyond := func(n int) []int64 { return numbersTo(-1, int64(n)) }
	for _, place := range beyond(len(spotsOf(b.Library, b.Design))) {
		for _, cell := range beyond(len(b.Library.Cells)) {
			list = append(list, swap(place, cell))
			for _, name := range []string{"new", "x", "u1", "n1", "o", "in", "", "X"} {
				list = append(list, buffer(place, cell, name))
			}
		}
		for _, net := range beyond(len(b.Wires)) {
			for _, node := range numbersTo(-1, 4) {
				list = append(list, move(place, net, node))
			}
		}
	}
	for _, net := range beyond(len(b.Wires)) {
		list = append(list, rewire(net, impl.Wire{}), rewire(net, wire(nums(-1), nums(1), nums(0))))
		for sinks := range 6 {
			list = append(list, rewire(net, wireFor(sinks, int(net)+2)))
		}
		if net >= 0 && net < int64(len(b.Wires)) {
			list = append(list, rewire(net, b.Wires[net]))
		}
	}
	return list
}

// What chapter 8 says of edits, on its own.

// netAt returns where the net of a place is.
func netAt(d impl.Design, instance, pin int64) *int64 {
	if instance < 0 {
		return &d.Ports[pin].Net
	}
	return &d.Instances[instance].Nets[pin]
}

// nodesByPlace returns the node of each sink of a valid block, by its instance and pin.
func nodesByPlace(b impl.Block) map[[2]int64]int64 {
	nodes := map[[2]int64]int64{}
	for net, sinks := range sinksByNet(b.Library, b.Design) {
		for i, s := range sinks {
			nodes[[2]int64{s.instance, s.pin}] = b.Wires[net].Sink[i]
		}
	}
	return nodes
}

// editedBlock returns the block after an edit that is possible.
func editedBlock(b impl.Block, e impl.Edit) impl.Block {
	b = cloneBlock(b)
	d, places, nodes := &b.Design, spotsOf(b.Library, b.Design), nodesByPlace(b)
	instances, nets := int64(len(d.Instances)), int64(len(d.Nets))
	switch e.Kind {
	case impl.EditSwap:
		d.Instances[places[e.Place].instance].Cell = e.Cell
	case impl.EditBuffer:
		s := places[e.Place]
		d.Instances, d.Nets = append(d.Instances, inst(e.Name, e.Cell, s.net, nets)), append(d.Nets, e.Name)
		b.Wires = append(b.Wires, wire(nums(-1), nums(0), nums(0)))
		*netAt(*d, s.instance, s.pin) = nets
		nodes[[2]int64{instances, 0}] = nodes[[2]int64{s.instance, s.pin}]
		nodes[[2]int64{s.instance, s.pin}] = 0
	case impl.EditUnbuffer:
		s := sinksByNet(b.Library, *d)[nets-1][0]
		nodes[[2]int64{s.instance, s.pin}] = nodes[[2]int64{instances - 1, 0}]
		*netAt(*d, s.instance, s.pin) = d.Instances[instances-1].Nets[0]
		d.Instances, d.Nets, b.Wires = d.Instances[:instances-1], d.Nets[:nets-1], b.Wires[:nets-1]
	case impl.EditMove:
		s := places[e.Place]
		*netAt(*d, s.instance, s.pin) = e.Net
		nodes[[2]int64{s.instance, s.pin}] = e.Node
	case impl.EditWire:
		b.Wires[e.Net] = e.Wire
		nodes = nodesByPlace(b)
	}
	for net, sinks := range sinksByNet(b.Library, *d) {
		b.Wires[net].Sink = nil
		for _, s := range sinks {
			b.Wires[net].Sink = append(b.Wires[net].Sink, nodes[[2]int64{s.instance, s.pin}])
		}
	}
	return b
}

// inverseOf returns the inverse of an edit that is possible.
func inverseOf(b impl.Block, e impl.Edit) impl.Edit {
	d, places := b.Design, spotsOf(b.Library, b.Design)
	switch e.Kind {
	case impl.EditSwap:
		return swap(e.Place, d.Instances[places[e.Place].instance].Cell)
	case impl.EditBuffer:
		return unbuffer()
	case impl.EditUnbuffer:
		last, s := d.Instances[len(d.Instances)-1], sinksByNet(b.Library, d)[len(d.Nets)-1][0]
		for place, after := range spotsOf(b.Library, editedBlock(b, e).Design) {
			if after.instance == s.instance && after.pin == s.pin {
				return buffer(int64(place), last.Cell, last.Name)
			}
		}
	case impl.EditMove:
		s := places[e.Place]
		return move(e.Place, s.net, nodesByPlace(b)[[2]int64{s.instance, s.pin}])
	}
	return rewire(e.Net, b.Wires[e.Net])
}

// touchedBy returns the nets that an edit that is possible touches.
func touchedBy(b impl.Block, e impl.Edit) []int64 {
	d, places := b.Design, spotsOf(b.Library, b.Design)
	var list []int64
	switch e.Kind {
	case impl.EditSwap:
		list = append(list, d.Instances[places[e.Place].instance].Nets...)
	case impl.EditBuffer:
		list = nums(places[e.Place].net, int64(len(d.Nets)))
	case impl.EditUnbuffer:
		list = nums(d.Instances[len(d.Instances)-1].Nets[0])
	case impl.EditMove:
		list = nums(places[e.Place].net, e.Net)
	case impl.EditWire:
		list = nums(e.Net)
	}
	slices.Sort(list)
	return slices.Compact(list)
}

// textOfEdit returns the text of an edit whose numbers are all there.
func textOfEdit(b impl.Block, e impl.Edit) string {
	places := spotsOf(b.Library, b.Design)
	switch e.Kind {
	case impl.EditSwap:
		return "swap " + places[e.Place].name + " " + b.Library.Cells[e.Cell].Name
	case impl.EditBuffer:
		return "buffer " + places[e.Place].name + " " + b.Library.Cells[e.Cell].Name + " " + e.Name
	case impl.EditUnbuffer:
		return "unbuffer"
	case impl.EditMove:
		return "move " + places[e.Place].name + " " + b.Design.Nets[e.Net] + " " + strconv.FormatInt(e.Node, 10)
	}
	return "wire " + b.Design.Nets[e.Net] + " " + textOfWire(e.Wire)
}

// mentions tells which of the fields Place, Cell, Net, Node, Name and Wire a kind of edits mentions.
func mentions(kind int64) [6]bool {
	return [][6]bool{
		impl.EditSwap:     {true, true, false, false, false, false},
		impl.EditBuffer:   {true, true, false, false, true, false},
		impl.EditUnbuffer: {},
		impl.EditMove:     {true, false, true, true, false, false},
		impl.EditWire:     {false, false, true, false, false, true},
	}[kind]
}

// hasFields reports whether the fields of an edit are there, or zero.
func hasFields(b impl.Block, e impl.Edit) bool {
	if e.Kind < 1 || e.Kind > 5 {
		return false
	}
	inside := func(v int64, n int) bool { return v >= 0 && v < int64(n) }
	w := e.Wire
	isZero := [6]bool{e.Place == 0, e.Cell == 0, e.Net == 0, e.Node == 0, e.Name == "", len(w.Parent) == 0 && len(w.Res) == 0 && len(w.Cap) == 0 && len(w.Sink) == 0}
	isThere := [6]bool{inside(e.Place, len(spotsOf(b.Library, b.Design))), inside(e.Cell, len(b.Library.Cells)), inside(e.Net, len(b.Wires)), false, true, true}
	isThere[3] = isThere[2] && inside(e.Node, len(b.Wires[e.Net].Parent))
	for i, mentioned := range mentions(e.Kind) {
		if mentioned && !isThere[i] || !mentioned && !isZero[i] {
			return false
		}
	}
	return true
}

// holds reports whether the conditions of the kind of an edit hold whose fields are there.
func holds(b impl.Block, e impl.Edit) bool {
	d, places, cells, last := b.Design, spotsOf(b.Library, b.Design), b.Library.Cells, len(b.Design.Instances)-1
	twoPins := func(c impl.Cell) bool { return c.Kind == impl.CellGate && len(c.Pins) == 2 }
	switch e.Kind {
	case impl.EditSwap:
		s := places[e.Place]
		if s.instance < 0 || !s.drives {
			return false
		}
		old, next := cells[d.Instances[s.instance].Cell], cells[e.Cell]
		if old.Kind != next.Kind || len(old.Pins) != len(next.Pins) {
			return false
		}
		for i := range old.Pins {
			if old.Pins[i].Clock != next.Pins[i].Clock {
				return false
			}
		}
	case impl.EditBuffer:
		isTaken := slices.Contains(d.Nets, e.Name) || slices.ContainsFunc(d.Instances, func(i impl.Instance) bool { return i.Name == e.Name })
		return !places[e.Place].drives && twoPins(cells[e.Cell]) && isNameByChapter(e.Name) && !isTaken
	case impl.EditUnbuffer:
		if last < 0 || !twoPins(cells[d.Instances[last].Cell]) {
			return false
		}
		i, net := d.Instances[last], int64(len(d.Nets)-1)
		w := b.Wires[net]
		return i.Nets[1] == net && i.Nets[0] != net && i.Name == d.Nets[net] && len(w.Sink) == 1 && len(w.Cap) == 1 && w.Cap[0] == 0
	case impl.EditMove:
		return !places[e.Place].drives && places[e.Place].net != e.Net
	case impl.EditWire:
		return impl.IsWire(e.Wire, int64(len(b.Wires[e.Net].Sink)))
	}
	return true
}

func isNameByChapter(s string) bool {
	letters := 0
	for i := range len(s) {
		switch {
		case s[i] >= 'a' && s[i] <= 'z':
			letters++
		case s[i] < '0' || s[i] > '9' || i == 0:
			return false
		}
	}
	return letters > 0 && len(s) <= 8
}

// codeOfEdit returns the code of an edit of a valid block.
func codeOfEdit(b impl.Block, e impl.Edit) int64 {
	switch {
	case !hasFields(b, e):
		return impl.ErrRange
	case !holds(b, e):
		return impl.ErrState
	case e.Kind == impl.EditBuffer && len(b.Design.Instances) == 14:
		return impl.ErrLimit
	}
	return impl.ErrNone
}

// checkRefusedEdit looks whether all functions answer an edit with a code and zero values.
func checkRefusedEdit(t *testing.T, name string, b impl.Block, e impl.Edit, want int64) {
	t.Helper()
	after, code := impl.ApplyEdit(b, e)
	back, backCode := impl.InverseEdit(b, e)
	nets, netsCode := impl.TouchedNets(b, e)
	list, listCode := impl.InverseEdits(b, []impl.Edit{e})
	checkNumbers(t, fmt.Sprintf("%s: the codes of %+v", name, e), nums(impl.EditCode(b, e), code, backCode, netsCode, listCode), want, want, want, want, want)
	text := impl.EditText(b, e)
	if !sameBlocks(after, impl.Block{}) || !sameEdits(back, impl.Edit{}) || len(nets) != 0 || len(list) != 0 || text != "" {
		t.Errorf("%s: %+v gives %+v, %+v, %v, %v, %q beside an error", name, e, after, back, nets, list, text)
	}
}

// checkEdit compares what all functions answer with what they must.
func checkEdit(t *testing.T, name string, b impl.Block, e impl.Edit) {
	t.Helper()
	if want := codeOfEdit(b, e); want != impl.ErrNone {
		checkRefusedEdit(t, name, b, e, want)
		return
	}
	name = fmt.Sprintf("%s, %+v", name, e)
	after, code := impl.ApplyEdit(b, e)
	back, backCode := impl.InverseEdit(b, e)
	nets, netsCode := impl.TouchedNets(b, e)
	checkNumbers(t, name+": the codes", nums(impl.EditCode(b, e), code, backCode, netsCode), 0, 0, 0, 0)
	if want := editedBlock(b, e); !impl.IsBlock(after) || !sameBlocks(after, want) {
		t.Errorf("%s: ApplyEdit gives %q; want %q", name, impl.BlockText(after), textOfBlock(want))
	}
	if want := inverseOf(b, e); !sameEdits(back, want) {
		t.Errorf("%s: InverseEdit gives %+v; want %+v", name, back, want)
	}
	checkNumbers(t, name+": TouchedNets", nets, touchedBy(b, e)...)
	if got, want := impl.EditText(b, e), textOfEdit(b, e); got != want {
		t.Errorf("%s: EditText gives %q; want %q", name, got, want)
	}
}
