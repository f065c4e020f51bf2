package tests

import (
	"slices"
	"strconv"
	"testing"

	"loop.example/g00861/impl"
)

// Promise 5: every place has a name by which it is found, and is the driver or a sink of its net.
// And what the functions of layer 5 answer for places and nets that are not there.

func TestEveryPlaceIsFoundByItsName(t *testing.T) {
	for _, c := range sampleDesigns() {
		names := map[string]bool{}
		for place := range impl.PlaceCount(c.l, c.d) {
			name := impl.PlaceName(c.l, c.d, place)
			if got := impl.PlaceNamed(c.l, c.d, name); got != place || name == "" || names[name] {
				t.Errorf("%s: the place %d has the name %q, by which %d is found", c.name, place, name, got)
			}
			names[name] = true
		}
	}
}

func TestEveryPlaceIsAnEndOfItsNet(t *testing.T) {
	for _, c := range sampleDesigns() {
		for place := range impl.PlaceCount(c.l, c.d) {
			own := impl.NetOfPlace(c.l, c.d, place)
			if own < 0 || own >= int64(len(c.d.Nets)) {
				t.Errorf("%s: the place %d has the net %d", c.name, place, own)
			}
			for net := range int64(len(c.d.Nets)) {
				drives, sinks := impl.DriverOf(c.l, c.d, net) == place, impl.SinksOf(c.l, c.d, net)
				sinks = slices.DeleteFunc(sinks, func(sink int64) bool { return sink != place })
				if net == own && drives != (len(sinks) == 0) || net != own && (drives || len(sinks) > 0) || len(sinks) > 1 {
					t.Errorf("%s: the place %d of the net %d drives the net %d: %v, is so often a sink of it: %d", c.name, place, own, net, drives, len(sinks))
				}
			}
		}
	}
}

func TestNetsHaveAllSinks(t *testing.T) {
	for _, c := range sampleDesigns() {
		want, got := 0, 0
		for _, s := range spotsOf(c.l, c.d) {
			if !s.drives {
				want++
			}
		}
		for net := range int64(len(c.d.Nets)) {
			got += len(impl.SinksOf(c.l, c.d, net))
		}
		if got != want {
			t.Errorf("%s: all nets together have %d sinks; want %d", c.name, got, want)
		}
	}
}

// checkSpots compares what the functions tell of each place and each net with these places.
func checkSpots(t *testing.T, c designCase, want []spot) {
	t.Helper()
	if got := impl.PlaceCount(c.l, c.d); got != int64(len(want)) {
		t.Errorf("%s: %d places; want %d", c.name, got, len(want))
	}
	for i, s := range want {
		place := int64(i)
		instance, pin := impl.InstanceOf(c.l, c.d, place)
		net, load := impl.NetOfPlace(c.l, c.d, place), impl.PlaceCap(c.l, c.d, place)
		got := spot{instance, pin, impl.PlaceName(c.l, c.d, place), net, load, impl.DriverOf(c.l, c.d, net) == place}
		if got != s {
			t.Errorf("%s: the place %d is %v; want %v", c.name, place, got, s)
		}
		if at := impl.PlaceOf(c.l, c.d, s.instance, s.pin); at != place {
			t.Errorf("%s: PlaceOf(%d, %d) = %d; want %d", c.name, s.instance, s.pin, at, place)
		}
		if at := impl.PlaceNamed(c.l, c.d, s.name); at != place {
			t.Errorf("%s: PlaceNamed(%q) = %d; want %d", c.name, s.name, at, place)
		}
	}
	for net := range int64(len(c.d.Nets)) {
		var sinks []int64
		for place, s := range want {
			if s.net == net && !s.drives {
				sinks = append(sinks, int64(place))
			}
		}
		checkNumbers(t, c.name+": sinks of "+strconv.FormatInt(net, 10), impl.SinksOf(c.l, c.d, net), sinks...)
	}
}

func TestPlacesOfSampleDesigns(t *testing.T) {
	for _, c := range sampleDesigns() {
		checkSpots(t, c, spotsOf(c.l, c.d))
	}
}

func TestPlacesOfMixedDesign(t *testing.T) {
	l, d := pinLibrary(), mixedDesign()
	checkSpots(t, designCase{"mixed design", l, d}, mixedSpots())
	wantDrivers := nums(15, 3, 5, 10, 17, 13, 18)
	wantSinks := [][]int64{{1, 6, 16}, {4, 7, 8}, {0}, {2, 11, 14}, {9}, {12}, {}}
	for net := range int64(7) {
		checkNumbers(t, "driver of "+d.Nets[net], nums(impl.DriverOf(l, d, net)), wantDrivers[net])
		checkNumbers(t, "sinks of "+d.Nets[net], impl.SinksOf(l, d, net), wantSinks[net]...)
	}
}

func TestPlacesOfPorts(t *testing.T) {
	l, d := impl.Library{}, impl.Design{Nets: []string{"a", "b"}, Ports: []impl.Port{outPort("o", 1), inPort("i", 1), outPort("p", 1), inPort("k", 0)}}
	checkSpots(t, designCase{"ports", l, d}, []spot{
		{-1, 0, "o", 1, 0, false}, {-1, 1, "i", 1, 0, true}, {-1, 2, "p", 1, 0, false}, {-1, 3, "k", 0, 0, true},
	})
	checkNumbers(t, "drivers", nums(impl.DriverOf(l, d, 0), impl.DriverOf(l, d, 1)), 3, 1)
	checkNumbers(t, "sinks of a", impl.SinksOf(l, d, 0))
	checkNumbers(t, "sinks of b", impl.SinksOf(l, d, 1), 0, 2)
}

func TestPlacesOfNoDesign(t *testing.T) {
	for n := range impl.MaxCells + 1 {
		c := designCase{"no design", numbered(n), impl.Design{}}
		checkSpots(t, c, nil)
		checkNoPlace(t, c, outside(0))
		checkNoNet(t, c, outside(0))
		checkNoPin(t, c, nums(-1, 0, 1), outside(0))
		checkNoName(t, c, "", "/", "u1", "u1/y")
	}
}

func checkNoPlace(t *testing.T, c designCase, places []int64) {
	t.Helper()
	for _, place := range places {
		instance, pin := impl.InstanceOf(c.l, c.d, place)
		net, load := impl.NetOfPlace(c.l, c.d, place), impl.PlaceCap(c.l, c.d, place)
		name := c.name + ": the place " + strconv.FormatInt(place, 10)
		checkNumbers(t, name, nums(instance, pin, net, load), -1, -1, -1, -1)
		if got := impl.PlaceName(c.l, c.d, place); got != "" {
			t.Errorf("%s has the name %q", name, got)
		}
	}
}

func checkNoNet(t *testing.T, c designCase, nets []int64) {
	t.Helper()
	for _, net := range nets {
		name := c.name + ": the net " + strconv.FormatInt(net, 10)
		checkNumbers(t, name, nums(impl.DriverOf(c.l, c.d, net)), -1)
		checkNumbers(t, name, impl.SinksOf(c.l, c.d, net))
	}
}

func checkNoPin(t *testing.T, c designCase, instances, pins []int64) {
	t.Helper()
	for _, instance := range instances {
		for _, pin := range pins {
			if got := impl.PlaceOf(c.l, c.d, instance, pin); got != -1 {
				t.Errorf("%s: PlaceOf(%d, %d) = %d", c.name, instance, pin, got)
			}
		}
	}
}

func checkNoName(t *testing.T, c designCase, names ...string) {
	t.Helper()
	for _, name := range names {
		if got := impl.PlaceNamed(c.l, c.d, name); got != -1 {
			t.Errorf("%s: PlaceNamed(%q) = %d", c.name, name, got)
		}
	}
}

// noInstances returns numbers that are neither an index of n instances nor -1 for the ports.
func noInstances(n int) []int64 {
	return slices.DeleteFunc(outside(n), func(v int64) bool { return v == -1 })
}

func TestPlacesOutside(t *testing.T) {
	for _, c := range sampleDesigns() {
		checkNoPlace(t, c, outside(len(spotsOf(c.l, c.d))))
		checkNoNet(t, c, outside(len(c.d.Nets)))
		checkNoPin(t, c, nums(-1), outside(len(c.d.Ports)))
		checkNoPin(t, c, noInstances(len(c.d.Instances)), append(outside(0), 0, 1, 2, 3, 4, 5, 6, 7))
		for i, instance := range c.d.Instances {
			checkNoPin(t, c, nums(int64(i)), outside(len(instance.Nets)))
		}
	}
}

func TestNamesOfNoPlace(t *testing.T) {
	c := designCase{"mixed design", pinLibrary(), mixedDesign()}
	checkNoName(t, c, badNames()...)
	checkNoName(t, c, goodNames()...)
	checkNoName(t, c, c.d.Nets[1:]...)
	// Parts of names, and more than names.
	checkNoName(t, c, "/", "//", "ff", "lat", "y", "i0", "ff/", "/q", "/ff", "q/", "ffq", "u1/", "/u1", "u1//y", "/u1/y", "u1/y/", "u1/y/y", "u1/u1/y")
	checkNoName(t, c, "u1/u1", "o/", "/o", "o/o", "ck/y", "u1/y/o", "na/", "inv/y", "and", "u1/inv", "u1/nc", "nb/y")
	// Pins of other cells, and other places for the slash.
	checkNoName(t, c, "u1/q", "u1/i1", "ff/y", "ff/g", "lat/d0", "u3/i2", "f/fq", "u/1y", "u1y/", "u2/y", "1/1", "-1/0", "0", "5")
	checkNoName(t, c, "U1/y", "u1/Y", " u1/y", "u1/y ", "u1 /y", "u1/ y", "u1\\y", "u1.y", "u1/y\n", "u1/y\x00", "O", " o", "o ", "o\n")
	for _, s := range mixedSpots() {
		checkNoName(t, c, s.name+"/", "/"+s.name, s.name+" ", s.name+"0", s.name+"/"+s.name, s.name[:len(s.name)-1]+"?")
	}
}

// The name of an instance is no place's, but for a port that has it too.
func TestInstanceAndPortOfOneName(t *testing.T) {
	l, d := pinLibrary(), ring(2)
	d.Ports = []impl.Port{outPort("y", 0), outPort("u1", 1), inPort("i0", 2)}
	d.Nets = append(d.Nets, "u0")
	checkSpots(t, designCase{"one name", l, d}, []spot{
		{0, 0, "u0/i0", 0, 3, false}, {0, 1, "u0/y", 1, 0, true}, {1, 0, "u1/i0", 1, 3, false}, {1, 1, "u1/y", 0, 0, true},
		{-1, 0, "y", 0, 0, false}, {-1, 1, "u1", 1, 0, false}, {-1, 2, "i0", 2, 0, true},
	})
	checkNoName(t, designCase{"one name", l, d}, "u0", "u1/", "/u1", "u1/u1", "/y", "/i0", "n0", "n1")
}

// The pins of an instance have the capacitances of its cell, and the ports and outputs have none.
func TestCapacitancesOfPlaces(t *testing.T) {
	for cell, c := range pinLibrary().Cells {
		d := impl.Design{Nets: []string{"n"}, Instances: []impl.Instance{inst("u", int64(cell), make([]int64, len(c.Pins))...)}}
		d.Ports = []impl.Port{outPort("o", 0)}
		for pin := range int64(len(c.Pins)) {
			checkNumbers(t, c.Name, nums(impl.PlaceCap(pinLibrary(), d, pin)), c.Pins[pin].Cap)
		}
		checkNumbers(t, "a port", nums(impl.PlaceCap(pinLibrary(), d, int64(len(c.Pins)))), 0)
	}
	d := impl.Design{Nets: []string{"n"}, Instances: []impl.Instance{inst("u", flopCell, 0, 0, 0, 0)}}
	got := nums(impl.PlaceCap(pinLibrary(), d, 0), impl.PlaceCap(pinLibrary(), d, 1), impl.PlaceCap(pinLibrary(), d, 2), impl.PlaceCap(pinLibrary(), d, 3))
	checkNumbers(t, "d0, the clock pin, d1 and the output", got, 7, 11, 13, 0)
}
