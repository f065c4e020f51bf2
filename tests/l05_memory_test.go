package tests

import (
	"fmt"
	"slices"
	"testing"

	"loop.example/g00861/impl"
)

// No function of layer 5 writes into what it is given, and no list of sinks shares memory.

// useDesign calls every function of layer 5 with a design.
func useDesign(l impl.Library, d impl.Design) {
	impl.IsDesign(l, d)
	impl.PlaceCount(l, d)
	for place := range int64(25) {
		impl.InstanceOf(l, d, place-1)
		impl.PlaceNamed(l, d, impl.PlaceName(l, d, place-1))
		impl.NetOfPlace(l, d, place-1)
		impl.PlaceCap(l, d, place-1)
		impl.DriverOf(l, d, place-1)
		impl.SinksOf(l, d, place-1)
		impl.PlaceOf(l, d, place/5-1, place%5)
	}
}

// cloneDesign returns a copy of a library and a design that share no memory with them. Each list
// has an element in the capacity behind it.
func cloneDesign(l impl.Library, d impl.Design) (impl.Library, impl.Design) {
	l.Cells = cloneWith(l.Cells, inverter())
	for i := range l.Cells {
		l.Cells[i] = cloneCell(l.Cells[i])
	}
	d.Instances = cloneWith(d.Instances, inst("spare", -77, -77))
	for i := range d.Instances {
		d.Instances[i].Nets = withSpare(d.Instances[i].Nets)
	}
	d.Nets = cloneWith(d.Nets, "spare")
	d.Ports = cloneWith(d.Ports, outPort("spare", -77))
	return l, d
}

// memoryOfDesign returns all that is in the lists of a library and a design and in the capacity
// behind them.
func memoryOfDesign(l impl.Library, d impl.Design) string {
	text := fmt.Sprint(len(l.Cells), len(d.Instances), len(d.Nets), len(d.Ports), d.Nets[:cap(d.Nets)], d.Ports[:cap(d.Ports)])
	for _, c := range l.Cells[:cap(l.Cells)] {
		text += memoryOf(c)
	}
	for _, i := range d.Instances[:cap(d.Instances)] {
		text += fmt.Sprint(i.Name, i.Cell, len(i.Nets), i.Nets[:cap(i.Nets)])
	}
	return text
}

func TestDesignsAreNotChanged(t *testing.T) {
	for _, c := range append(sampleDesigns(), invalidDesigns()...) {
		l, d := cloneDesign(c.l, c.d)
		before := memoryOfDesign(l, d)
		useDesign(l, d)
		if memoryOfDesign(l, d) != before {
			t.Errorf("%s: %v of %v has become %v of %v", c.name, c.d, c.l, d, l)
		}
	}
}

func TestSinksHaveTheirOwnMemory(t *testing.T) {
	for _, c := range sampleDesigns() {
		l, d := cloneDesign(c.l, c.d)
		before := memoryOfDesign(l, d)
		for net := range int64(len(d.Nets)) {
			first, second := impl.SinksOf(l, d, net), impl.SinksOf(l, d, net)
			want := slices.Clone(second)
			full := first[:cap(first)]
			for i := range full {
				full[i] -= 1000003
			}
			if !slices.Equal(second, want) || !slices.Equal(impl.SinksOf(l, d, net), want) || memoryOfDesign(l, d) != before {
				t.Errorf("%s: SinksOf(%d) shares its memory", c.name, net)
			}
		}
	}
}
