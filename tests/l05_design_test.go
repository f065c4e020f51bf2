package tests

import (
	"math"
	"strconv"
	"testing"

	"loop.example/g00861/impl"
)

// The validity of designs.

func TestNetlistConstants(t *testing.T) {
	checkNumbers(t, "limits", nums(impl.MaxInstances, impl.MaxNets, impl.MaxPorts), 14, 30, 8)
}

func checkDesign(t *testing.T, name string, l impl.Library, d impl.Design, want bool) {
	t.Helper()
	if impl.IsDesign(l, d) != want {
		t.Errorf("%s: IsDesign is not %v", name, want)
	}
}

func TestSampleDesignsAreValid(t *testing.T) {
	for _, c := range sampleDesigns() {
		checkDesign(t, c.name, c.l, c.d, true)
	}
	for n := range impl.MaxCells + 1 {
		checkDesign(t, "no design of "+strconv.Itoa(n)+" cells", numbered(n), impl.Design{}, true)
	}
}

func TestLibrariesOfDesigns(t *testing.T) {
	for _, l := range invalidLibraries() {
		checkDesign(t, "nothing", l, impl.Design{}, false)
		checkDesign(t, "ports", l, ports(2, 1), false)
	}
	for i := range pinLibrary().Cells {
		l := pinLibrary()
		l.Cells[i].Leak = -1
		checkDesign(t, "a wrong cell "+strconv.Itoa(i), l, mixedDesign(), false)
		checkDesign(t, "a wrong cell that no instance has", l, ports(1, 1), false)
	}
	twins := pinLibrary()
	twins.Cells[latchCell].Name = twins.Cells[wideCell].Name
	checkDesign(t, "two cells of one name", twins, mixedDesign(), false)
	checkDesign(t, "instances without cells", impl.Library{}, mixedDesign(), false)
	fewer := pinLibrary()
	fewer.Cells = fewer.Cells[:fullCell]
	checkDesign(t, "the library lacks a cell", fewer, mixedDesign(), false)
	fewer.Cells = pinLibrary().Cells[:fullCell+1]
	checkDesign(t, "the library has just the cells", fewer, mixedDesign(), true)
}

func TestNumberOfInstances(t *testing.T) {
	for n := range 20 {
		checkDesign(t, strconv.Itoa(n)+" instances", pinLibrary(), ring(n), n <= 14)
	}
	checkDesign(t, "10000 instances", pinLibrary(), ring(10000), false)
}

func TestNumberOfPorts(t *testing.T) {
	for inputs := 1; inputs <= 12; inputs++ {
		for outputs := range 12 {
			name := strconv.Itoa(inputs) + " inputs, " + strconv.Itoa(outputs) + " outputs"
			checkDesign(t, name, pinLibrary(), ports(inputs, outputs), inputs+outputs <= 8)
			alone := ring(1)
			alone.Ports = ports(0, inputs+outputs).Ports
			checkDesign(t, name+" as outputs", pinLibrary(), alone, inputs+outputs <= 8)
		}
	}
}

// There are at most as many drivers as instances and ports, which are fewer than MaxNets, so that
// a design with this number of nets lacks some.
func TestNumberOfNets(t *testing.T) {
	for inputs := range 9 {
		checkDesign(t, "instances and inputs", pinLibrary(), drawnDesign(14, inputs, 8-inputs), true)
	}
	for nets := 22; nets <= 40; nets++ {
		d := drawnDesign(14, 8, 0)
		for len(d.Nets) < nets {
			d.Nets = append(d.Nets, "x"+strconv.Itoa(len(d.Nets)))
		}
		checkDesign(t, strconv.Itoa(nets)+" nets", pinLibrary(), d, nets == 22)
	}
	// Here it is the limits alone that are exceeded.
	for n := 15; n <= 40; n++ {
		checkDesign(t, strconv.Itoa(n)+" nets with drivers", pinLibrary(), drawnDesign(n, 0, 0), false)
		checkDesign(t, strconv.Itoa(n)+" nets with drivers and input ports", pinLibrary(), drawnDesign(n-8, 8, 0), n <= 22)
	}
}

// withNames returns mixedDesign with a name in each place that has one.
func withNames(name string) []impl.Design {
	var list []impl.Design
	for i := range mixedDesign().Instances {
		d := mixedDesign()
		d.Instances[i].Name = name
		list = append(list, d)
	}
	for i := range mixedDesign().Nets {
		d := mixedDesign()
		d.Nets[i] = name
		list = append(list, d)
	}
	for i := range mixedDesign().Ports {
		d := mixedDesign()
		d.Ports[i].Name = name
		list = append(list, d)
	}
	return list
}

func TestNamesOfDesigns(t *testing.T) {
	for _, name := range goodNames() {
		for _, d := range withNames(name) {
			checkDesign(t, "the name "+name, pinLibrary(), d, true)
		}
	}
	for _, name := range append(badNames(), "u1/y", "/", "u1/", "/y") {
		for _, d := range withNames(name) {
			checkDesign(t, "the name "+strconv.Quote(name), pinLibrary(), d, false)
		}
	}
}

func TestNamesOfAKindDiffer(t *testing.T) {
	for i := range mixedDesign().Instances {
		for k := range mixedDesign().Instances {
			d := mixedDesign()
			d.Instances[i].Name = d.Instances[k].Name
			checkDesign(t, "instances of one name", pinLibrary(), d, i == k)
		}
	}
	for i := range mixedDesign().Nets {
		for k := range mixedDesign().Nets {
			d := mixedDesign()
			d.Nets[i] = d.Nets[k]
			checkDesign(t, "nets of one name", pinLibrary(), d, i == k)
		}
	}
	for i := range mixedDesign().Ports {
		for k := range mixedDesign().Ports {
			d := mixedDesign()
			d.Ports[i].Name = d.Ports[k].Name
			checkDesign(t, "ports of one name", pinLibrary(), d, i == k)
		}
	}
}

// An instance, a net and a port may have one name, which may also be that of a cell or a pin.
func TestNamesOfKindsAreApart(t *testing.T) {
	for _, name := range []string{"same", "inv", "y", "i0", "flop"} {
		for i := range mixedDesign().Instances {
			for n := range mixedDesign().Nets {
				for p := range mixedDesign().Ports {
					d := mixedDesign()
					d.Instances[i].Name, d.Ports[p].Name = name, name
					checkDesign(t, "an instance and a port "+name, pinLibrary(), d, true)
					d.Nets[n] = name
					checkDesign(t, "an instance, a net and a port "+name, pinLibrary(), d, true)
				}
			}
		}
	}
}

func TestCellsOfInstances(t *testing.T) {
	cells := pinLibrary().Cells
	for i, instance := range mixedDesign().Instances {
		for cell := range int64(len(cells)) {
			d := mixedDesign()
			d.Instances[i].Cell = cell
			fits := len(cells[cell].Pins) == len(instance.Nets)
			checkDesign(t, instance.Name+" of the cell "+cells[cell].Name, pinLibrary(), d, fits)
		}
		for _, cell := range outside(len(cells)) {
			d := mixedDesign()
			d.Instances[i].Cell = cell
			checkDesign(t, instance.Name+" of the cell "+strconv.FormatInt(cell, 10), pinLibrary(), d, false)
			d.Instances[i].Nets = nil
			checkDesign(t, "an instance without cell and nets", pinLibrary(), d, false)
		}
	}
}

func TestNetsOfInstances(t *testing.T) {
	for i, instance := range mixedDesign().Instances {
		own := instance.Nets
		for n := range len(own) {
			d := mixedDesign()
			d.Instances[i].Nets = own[:n]
			checkDesign(t, instance.Name+" with too few nets", pinLibrary(), d, false)
			d.Instances[i].Nets = own[len(own)-n:]
			checkDesign(t, instance.Name+" with its last nets", pinLibrary(), d, false)
			for _, net := range outside(7) {
				d := mixedDesign()
				d.Instances[i].Nets[n] = net
				checkDesign(t, instance.Name+" with the net "+strconv.FormatInt(net, 10), pinLibrary(), d, false)
			}
		}
		for net := range int64(7) {
			d := mixedDesign()
			d.Instances[i].Nets = append(d.Instances[i].Nets, net)
			checkDesign(t, instance.Name+" with too many nets", pinLibrary(), d, false)
			d = mixedDesign()
			d.Instances[i].Nets = append(nums(net), own...)
			checkDesign(t, instance.Name+" with a net too much in front", pinLibrary(), d, false)
		}
	}
}

// An input may be on any net, and so may an output port.
func TestInputsOnAnyNet(t *testing.T) {
	for net := range int64(7) {
		for i, instance := range mixedDesign().Instances {
			for k := range len(instance.Nets) - 1 {
				d := mixedDesign()
				d.Instances[i].Nets[k] = net
				checkDesign(t, "an input on another net", pinLibrary(), d, true)
			}
		}
		for i, port := range mixedDesign().Ports {
			d := mixedDesign()
			d.Ports[i].Net = net
			same := net == port.Net
			checkDesign(t, "a port on another net", pinLibrary(), d, same || port.Dir == impl.PinOut)
		}
	}
}

func TestPortsOfDesigns(t *testing.T) {
	for i, port := range mixedDesign().Ports {
		for _, dir := range []int64{math.MinInt64, -1, 0, 1, 2, 3, 4, 1<<32 + port.Dir, 1<<8 + port.Dir, -port.Dir, math.MaxInt64} {
			d := mixedDesign()
			d.Ports[i].Dir = dir
			checkDesign(t, port.Name+" with the direction "+strconv.FormatInt(dir, 10), pinLibrary(), d, dir == port.Dir)
		}
		for _, net := range outside(7) {
			d := mixedDesign()
			d.Ports[i].Net = net
			checkDesign(t, port.Name+" with the net "+strconv.FormatInt(net, 10), pinLibrary(), d, false)
		}
	}
	checkDesign(t, "an output port without nets", pinLibrary(), impl.Design{Ports: []impl.Port{outPort("o", 0)}}, false)
	checkDesign(t, "an input port without nets", pinLibrary(), impl.Design{Ports: []impl.Port{inPort("i", 0)}}, false)
}

// driverCase is a list of instances and ports, and says whether each of n nets has one driver.
type driverCase struct {
	name      string
	valid     bool
	n         int
	instances []impl.Instance
	ports     []impl.Port
}

func driverCases() []driverCase {
	u := func(from, to int64) impl.Instance { return inst("u", invCell, from, to) }
	v := func(from, to int64) impl.Instance { return inst("v", invCell, from, to) }
	w := func(from, to int64) impl.Instance { return inst("w", invCell, from, to) }
	i := func(net int64) impl.Port { return inPort("i", net) }
	k := func(net int64) impl.Port { return inPort("k", net) }
	o := func(net int64) impl.Port { return outPort("o", net) }
	of := func(list ...impl.Instance) []impl.Instance { return list }
	with := func(list ...impl.Port) []impl.Port { return list }
	return []driverCase{
		{"a net alone", false, 1, nil, nil},
		{"an output port alone", false, 1, nil, with(o(0))},
		{"an input without driver", false, 2, of(u(0, 1)), nil},
		{"an input with an output port as its driver", false, 2, of(u(0, 1)), with(o(0))},
		{"a net too much", false, 2, nil, with(i(0))},
		{"the first net without driver", false, 2, nil, with(i(1))},
		{"two instances", false, 2, of(u(0, 1), v(0, 1)), with(i(0))},
		{"two instances and nothing else", false, 1, of(u(0, 0), v(0, 0)), nil},
		{"three instances", false, 1, of(u(0, 0), v(0, 0), w(0, 0)), nil},
		{"an instance and an input port", false, 1, of(u(0, 0)), with(i(0))},
		{"an instance behind an input port on one net", false, 2, of(u(0, 1)), with(i(0), k(1))},
		{"two input ports", false, 1, nil, with(i(0), k(0))},
		{"two input ports and an instance", false, 1, of(u(0, 0)), with(i(0), k(0))},
		{"as many drivers as nets, on one of them", false, 2, nil, with(i(0), k(0))},
		{"as many drivers as nets, on the other one", false, 2, of(u(0, 1)), with(i(1))},
		{"as many instances as nets, on one of them", false, 2, of(u(0, 1), v(0, 1)), nil},
		{"a net without sinks", true, 1, nil, with(i(0))},
		{"an output without sinks", true, 2, of(u(0, 1)), with(i(0))},
		{"an input port and an output port", true, 1, nil, with(i(0), o(0))},
		{"an output port before the input port", true, 1, nil, with(o(0), i(0))},
		{"an instance alone", true, 1, of(u(0, 0)), nil},
		{"an instance and an output port", true, 1, of(u(0, 0)), with(o(0))},
		{"an instance on the input port of another one", true, 3, of(u(0, 1), v(0, 2)), with(i(0))},
		{"two instances in a loop", true, 2, of(u(0, 1), v(1, 0)), nil},
		{"two instances side by side", true, 2, of(u(0, 0), v(1, 1)), nil},
	}
}

func TestEveryNetHasOneDriver(t *testing.T) {
	for _, c := range driverCases() {
		d := impl.Design{Instances: c.instances, Nets: []string{"n0", "n1", "n2"}[:c.n], Ports: c.ports}
		checkDesign(t, c.name, pinLibrary(), d, c.valid)
	}
	for i, instance := range mixedDesign().Instances {
		output := len(instance.Nets) - 1
		for net := range int64(7) {
			d := mixedDesign()
			d.Instances[i].Nets[output] = net
			checkDesign(t, instance.Name+" drives another net", pinLibrary(), d, net == instance.Nets[output])
		}
	}
}

// All pins of an instance may be on one net, whatever the cell.
func TestInstancesOnOneNet(t *testing.T) {
	for cell, c := range pinLibrary().Cells {
		d := impl.Design{Nets: []string{"n"}, Instances: []impl.Instance{inst("u", int64(cell), make([]int64, len(c.Pins))...)}}
		checkDesign(t, c.Name, pinLibrary(), d, true)
		d.Nets = append(d.Nets, "m")
		checkDesign(t, c.Name+" and a net without driver", pinLibrary(), d, false)
		d.Ports = []impl.Port{inPort("i", 1)}
		checkDesign(t, c.Name+" and an input port", pinLibrary(), d, true)
	}
}
