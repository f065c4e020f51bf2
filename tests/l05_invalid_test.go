package tests

import (
	"slices"
	"testing"

	"loop.example/g00861/impl"
)

// What the functions of layer 5 answer for designs that are not valid.

// designChanges make a mistake each in mixedDesign or its library.
func designChanges() map[string]func(l *impl.Library, d *impl.Design) {
	return map[string]func(l *impl.Library, d *impl.Design){
		"a wrong cell":           func(l *impl.Library, d *impl.Design) { l.Cells[fullCell].Energy = -1 },
		"a wrong cell, not used": func(l *impl.Library, d *impl.Design) { l.Cells[wideCell].Truth = nil },
		"two cells of one name":  func(l *impl.Library, d *impl.Design) { l.Cells[wideCell].Name = "inv" },
		"no cells":               func(l *impl.Library, d *impl.Design) { l.Cells = nil },
		"too few cells":          func(l *impl.Library, d *impl.Design) { l.Cells = l.Cells[:fullCell] },
		"too many cells":         func(l *impl.Library, d *impl.Design) { l.Cells = append(l.Cells, numbered(3).Cells...) },
		"another order of cells": func(l *impl.Library, d *impl.Design) { slices.Reverse(l.Cells) },
		"too many instances": func(l *impl.Library, d *impl.Design) {
			for range impl.MaxInstances {
				d.Instances = append(d.Instances, d.Instances[0])
			}
		},
		"too many nets":         func(l *impl.Library, d *impl.Design) { d.Nets = append(d.Nets, make([]string, impl.MaxNets)...) },
		"too many ports":        func(l *impl.Library, d *impl.Design) { d.Ports = append(d.Ports, ports(0, 4).Ports...) },
		"no name of instance":   func(l *impl.Library, d *impl.Design) { d.Instances[1].Name = "" },
		"no name of net":        func(l *impl.Library, d *impl.Design) { d.Nets[6] = "N" },
		"no name of port":       func(l *impl.Library, d *impl.Design) { d.Ports[0].Name = "a/b" },
		"instances of one name": func(l *impl.Library, d *impl.Design) { d.Instances[3].Name = "u1" },
		"nets of one name":      func(l *impl.Library, d *impl.Design) { d.Nets[5] = "na" },
		"ports of one name":     func(l *impl.Library, d *impl.Design) { d.Ports[0].Name = "u1" },
		"no cell":               func(l *impl.Library, d *impl.Design) { d.Instances[0].Cell = -1 },
		"no such cell":          func(l *impl.Library, d *impl.Design) { d.Instances[0].Cell = wideCell + 1 },
		"a cell of fewer pins":  func(l *impl.Library, d *impl.Design) { d.Instances[3].Cell = invCell },
		"a cell of more pins":   func(l *impl.Library, d *impl.Design) { d.Instances[3].Cell = fullCell },
		"no nets of instance":   func(l *impl.Library, d *impl.Design) { d.Instances[2].Nets = nil },
		"too few nets":          func(l *impl.Library, d *impl.Design) { d.Instances[2].Nets = d.Instances[2].Nets[1:] },
		"too many pins":         func(l *impl.Library, d *impl.Design) { d.Instances[2].Nets = append(d.Instances[2].Nets, 0) },
		"no net of a pin":       func(l *impl.Library, d *impl.Design) { d.Instances[0].Nets[0] = -1 },
		"no such net of a pin":  func(l *impl.Library, d *impl.Design) { d.Instances[0].Nets[0] = 7 },
		"no direction":          func(l *impl.Library, d *impl.Design) { d.Ports[2].Dir = 0 },
		"no such direction":     func(l *impl.Library, d *impl.Design) { d.Ports[2].Dir = 3 },
		"no net of a port":      func(l *impl.Library, d *impl.Design) { d.Ports[2].Net = -1 },
		"no such net of a port": func(l *impl.Library, d *impl.Design) { d.Ports[2].Net = 7 },
		"no driver":             func(l *impl.Library, d *impl.Design) { d.Ports[3].Dir = impl.PinOut },
		"a net alone":           func(l *impl.Library, d *impl.Design) { d.Nets = append(d.Nets, "alone") },
		"two instances":         func(l *impl.Library, d *impl.Design) { d.Instances[1].Nets[1] = 1 },
		"two input ports":       func(l *impl.Library, d *impl.Design) { d.Ports[2].Dir = impl.PinIn },
		"instance and port":     func(l *impl.Library, d *impl.Design) { d.Ports[0].Dir = impl.PinIn },
		"ports alone":           func(l *impl.Library, d *impl.Design) { d.Instances = nil },
		"instances alone":       func(l *impl.Library, d *impl.Design) { d.Ports = nil },
		"no nets":               func(l *impl.Library, d *impl.Design) { d.Nets = nil },
	}
}

// invalidDesigns are designs that miss each of the conditions.
func invalidDesigns() []designCase {
	var list []designCase
	for name, change := range designChanges() {
		l, d := pinLibrary(), mixedDesign()
		change(&l, &d)
		list = append(list, designCase{name, l, d})
	}
	for _, l := range invalidLibraries() {
		list = append(list, designCase{"an invalid library", l, impl.Design{}}, designCase{"an invalid library of ports", l, ports(2, 2)})
	}
	list = append(list, designCase{"too many instances in a ring", pinLibrary(), ring(15)})
	list = append(list, designCase{"too many input ports", pinLibrary(), ports(9, 0)})
	return append(list, designCase{"too many output ports", pinLibrary(), ports(1, 8)})
}

// numbersTo returns the numbers from first to last.
func numbersTo(first, last int64) []int64 {
	var list []int64
	for v := first; v <= last; v++ {
		list = append(list, v)
	}
	return list
}

func TestInvalidDesigns(t *testing.T) {
	names := []string{"", "/", "i0", "i1", "o0", "u0/i0", "u0/y", "u14/y"}
	for _, s := range mixedSpots() {
		names = append(names, s.name)
	}
	for _, c := range invalidDesigns() {
		checkDesign(t, c.name, c.l, c.d, false)
		checkNumbers(t, c.name, nums(impl.PlaceCount(c.l, c.d)), -1)
		checkNoPlace(t, c, append(numbersTo(-2, 35), outside(19)...))
		checkNoNet(t, c, append(numbersTo(-2, 35), outside(7)...))
		checkNoPin(t, c, numbersTo(-2, 16), numbersTo(-1, 9))
		checkNoPin(t, c, outside(4), outside(4))
		checkNoName(t, c, names...)
	}
}
