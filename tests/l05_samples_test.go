package tests

import (
	"math"
	"math/rand"
	"strconv"

	"loop.example/g00861/impl"
)

// The designs that the tests of layer 5 use, and their places, which follow chapter 5 on their own.

// The cells of pinLibrary.
const (
	invCell = iota
	andCell
	flopCell
	latchCell
	fullCell
	wideCell
)

// withCaps returns a cell whose inputs have these capacitances.
func withCaps(c impl.Cell, caps ...int64) impl.Cell {
	for i, load := range caps {
		c.Pins[i].Cap = load
	}
	return c
}

// pinLibrary returns a library of cells with two to five pins. All capacitances differ, so that
// none stands for another one.
func pinLibrary() impl.Library {
	return library(
		withCaps(named("inv", inverter()), 3),
		withCaps(named("and", and()), 5, 0),
		withCaps(named("flop", risingFlop()), 7, 11, 13),
		withCaps(named("latch", plainLatch()), 17, 19, 23),
		withCaps(named("full", fullLatch(2)), 29, 31, 37, 500),
		withCaps(named("wide", gate(make([]int64, 16))), 41, 43, 47, 53),
	)
}

func inst(name string, cell int64, nets ...int64) impl.Instance {
	return impl.Instance{Name: name, Cell: cell, Nets: nets}
}

func inPort(name string, net int64) impl.Port {
	return impl.Port{Name: name, Dir: impl.PinIn, Net: net}
}

func outPort(name string, net int64) impl.Port {
	return impl.Port{Name: name, Dir: impl.PinOut, Net: net}
}

// mixedDesign returns a design of pinLibrary with cells of different numbers of pins and ports of
// both directions. An output port is on the net of an input port and has the name of an instance,
// an output is on the net of its own input, and the net ng has no sinks.
func mixedDesign() impl.Design {
	return impl.Design{
		Instances: []impl.Instance{
			inst("ff", flopCell, 2, 0, 3, 1),
			inst("u1", invCell, 1, 2),
			inst("lat", fullCell, 0, 1, 1, 4, 3),
			inst("u3", andCell, 3, 5, 5),
		},
		Nets:  []string{"na", "nb", "nc", "nd", "ne", "nf", "ng"},
		Ports: []impl.Port{outPort("o", 3), inPort("ck", 0), outPort("u1", 0), inPort("e", 4), inPort("na", 6)},
	}
}

// ring returns n inverters, each of which drives the next one.
func ring(n int) impl.Design {
	var d impl.Design
	for i := range n {
		d.Instances = append(d.Instances, inst("u"+strconv.Itoa(i), invCell, int64(i), int64((i+1)%n)))
		d.Nets = append(d.Nets, "n"+strconv.Itoa(i))
	}
	return d
}

// ports returns a design of so many input ports, each with its net, and output ports on the first
// of the nets.
func ports(inputs, outputs int) impl.Design {
	var d impl.Design
	for i := range inputs {
		d.Ports = append(d.Ports, inPort("i"+strconv.Itoa(i), int64(i)))
		d.Nets = append(d.Nets, "n"+strconv.Itoa(i))
	}
	for i := range outputs {
		d.Ports = append(d.Ports, outPort("o"+strconv.Itoa(i), 0))
	}
	return d
}

// drawnDesign returns a design of pinLibrary with so many instances and ports, whose connections
// have no pattern. Its instances, nets and ports have the same names.
func drawnDesign(instances, inputs, outputs int) impl.Design {
	draw := rand.New(rand.NewSource(int64(100*instances + 10*inputs + outputs)))
	cells := pinLibrary().Cells
	driven := draw.Perm(instances + inputs)
	var d impl.Design
	for i := range driven {
		d.Nets = append(d.Nets, "x"+strconv.Itoa(i))
	}
	for i := range instances {
		cell := draw.Intn(len(cells))
		next := inst("x"+strconv.Itoa(i), int64(cell))
		for range len(cells[cell].Pins) - 1 {
			next.Nets = append(next.Nets, int64(draw.Intn(len(driven))))
		}
		next.Nets = append(next.Nets, int64(driven[i]))
		d.Instances = append(d.Instances, next)
	}
	for i := range inputs {
		d.Ports = append(d.Ports, inPort("x"+strconv.Itoa(i), int64(driven[instances+i])))
	}
	for i := range outputs {
		d.Ports = append(d.Ports, outPort("x"+strconv.Itoa(inputs+i), int64(draw.Intn(len(driven)))))
	}
	draw.Shuffle(len(d.Ports), func(i, k int) { d.Ports[i], d.Ports[k] = d.Ports[k], d.Ports[i] })
	return d
}

// designCase is a design with its library.
type designCase struct {
	name string
	l    impl.Library
	d    impl.Design
}

// sampleDesigns are valid designs of no, one and several instances, with and without ports.
func sampleDesigns() []designCase {
	list := []designCase{
		{"nothing", impl.Library{}, impl.Design{}},
		{"no design", pinLibrary(), impl.Design{}},
		{"empty lists", pinLibrary(), impl.Design{Instances: []impl.Instance{}, Nets: []string{}, Ports: []impl.Port{}}},
		{"mixed design", pinLibrary(), mixedDesign()},
		{"one inverter", pinLibrary(), ring(1)},
		{"a full ring", pinLibrary(), ring(14)},
		{"ports without cells", impl.Library{}, ports(3, 2)},
	}
	for _, instances := range []int{0, 1, 2, 6, 14} {
		for _, inputs := range []int{0, 1, 3, 8} {
			for _, outputs := range []int{0, 1, 5, 7, 8} {
				if instances+inputs > 0 && inputs+outputs <= 8 {
					name := "drawn from " + strconv.Itoa(instances) + ", " + strconv.Itoa(inputs) + ", " + strconv.Itoa(outputs)
					list = append(list, designCase{name, pinLibrary(), drawnDesign(instances, inputs, outputs)})
				}
			}
		}
	}
	return list
}

// spot is what the functions must tell of a place.
type spot struct {
	instance, pin int64
	name          string
	net, load     int64
	drives        bool
}

// spotsOf returns the places of a valid design.
func spotsOf(l impl.Library, d impl.Design) []spot {
	var list []spot
	for i, instance := range d.Instances {
		pins := l.Cells[instance.Cell].Pins
		for k := range pins {
			list = append(list, spot{int64(i), int64(k), instance.Name + "/" + pins[k].Name, instance.Nets[k], pins[k].Cap, k == len(pins)-1})
		}
	}
	for i, port := range d.Ports {
		list = append(list, spot{-1, int64(i), port.Name, port.Net, 0, port.Dir == impl.PinIn})
	}
	return list
}

// mixedSpots are the places of mixedDesign.
func mixedSpots() []spot {
	return []spot{
		{0, 0, "ff/d0", 2, 7, false},
		{0, 1, "ff/ck", 0, 11, false},
		{0, 2, "ff/d1", 3, 13, false},
		{0, 3, "ff/q", 1, 0, true},
		{1, 0, "u1/i0", 1, 3, false},
		{1, 1, "u1/y", 2, 0, true},
		{2, 0, "lat/g", 0, 29, false},
		{2, 1, "lat/a", 1, 31, false},
		{2, 2, "lat/b", 1, 37, false},
		{2, 3, "lat/c", 4, 500, false},
		{2, 4, "lat/q", 3, 0, true},
		{3, 0, "u3/i0", 3, 5, false},
		{3, 1, "u3/i1", 5, 0, false},
		{3, 2, "u3/y", 5, 0, true},
		{-1, 0, "o", 3, 0, false},
		{-1, 1, "ck", 0, 0, true},
		{-1, 2, "u1", 0, 0, false},
		{-1, 3, "e", 4, 0, true},
		{-1, 4, "na", 6, 0, true},
	}
}

// outside returns numbers that are no index of n elements, and of which some would be if they were
// cut to fewer bits.
func outside(n int) []int64 {
	last := int64(n) - 1
	return []int64{
		-1, -2, -100, last + 1, last + 2, 1000, math.MinInt64, math.MinInt64 + last, math.MaxInt64,
		1 << 8, 1 << 16, 1 << 32, 1<<32 + last, -1 << 32, -1<<32 + last, 1<<32 - 1,
	}
}
