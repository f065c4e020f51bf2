package tests

import (
	"testing"

	"loop.example/g00861/impl"
)

// InstanceNamed, NetNamed and PortNamed.

// checkNamed looks which instance, net and port a name finds.
func checkNamed(t *testing.T, d impl.Design, name string, want ...int64) {
	t.Helper()
	got := nums(impl.InstanceNamed(d, name), impl.NetNamed(d, name), impl.PortNamed(d, name))
	checkNumbers(t, "the instance, the net and the port "+name, got, want...)
}

func TestNamesOfMixedDesign(t *testing.T) {
	d := mixedDesign()
	checkNamed(t, d, "ff", 0, -1, -1)
	checkNamed(t, d, "u1", 1, -1, 2)
	checkNamed(t, d, "u3", 3, -1, -1)
	checkNamed(t, d, "na", -1, 0, 4)
	checkNamed(t, d, "nb", -1, 1, -1)
	checkNamed(t, d, "ng", -1, 6, -1)
	checkNamed(t, d, "o", -1, -1, 0)
	checkNamed(t, d, "ck", -1, -1, 1)
	for _, name := range []string{"", "none", "n", "nab", "NA", " na", "na ", "na\n", "u1/y", "u", "inv", "y", "net", "port", "inst", "0", "-1"} {
		checkNamed(t, d, name, -1, -1, -1)
	}
}

func TestNamesOfSampleDesigns(t *testing.T) {
	for _, c := range sampleDesigns() {
		for i, instance := range c.d.Instances {
			checkNumbers(t, c.name, nums(impl.InstanceNamed(c.d, instance.Name)), int64(i))
		}
		for i, name := range c.d.Nets {
			checkNumbers(t, c.name, nums(impl.NetNamed(c.d, name)), int64(i))
		}
		for i, port := range c.d.Ports {
			checkNumbers(t, c.name, nums(impl.PortNamed(c.d, port.Name)), int64(i))
		}
		checkNamed(t, c.d, "", -1, -1, -1)
		checkNamed(t, c.d, "none", -1, -1, -1)
	}
}

// The first one of a name counts, and the design need not be valid.
func TestNamesOfInvalidDesigns(t *testing.T) {
	d := impl.Design{
		Instances: []impl.Instance{inst("a", -1), inst("", 99, 7), inst("b", 0, -5), inst("", 0), inst("b", 0), inst("A b\n", 0)},
		Nets:      []string{"b", "a", "a", "A b\n", "", "c"},
		Ports:     []impl.Port{outPort("A b\n", 77), outPort("b", -1), {Name: "a", Dir: -3}, inPort("", 0), inPort("a", 0)},
	}
	checkNamed(t, d, "a", 0, 1, 2)
	checkNamed(t, d, "b", 2, 0, 1)
	checkNamed(t, d, "", 1, 4, 3)
	checkNamed(t, d, "A b\n", 5, 3, 0)
	checkNamed(t, d, "c", -1, 5, -1)
	checkNamed(t, d, "A b", -1, -1, -1)
	checkNamed(t, ring(1000), "u999", 999, -1, -1)
	checkNamed(t, ring(1000), "n999", -1, 999, -1)
	checkNamed(t, ports(1000, 500), "o499", -1, -1, 1499)
	for name, change := range designChanges() {
		l, d := pinLibrary(), mixedDesign()
		change(&l, &d)
		for _, word := range []string{"", "ff", "u1", "na", "nb", "o", "ck", "N", "a/b", "alone"} {
			instance, net, port := int64(-1), int64(-1), int64(-1)
			instance = nameIn(len(d.Instances), func(i int) string { return d.Instances[i].Name }, word)
			net = nameIn(len(d.Nets), func(i int) string { return d.Nets[i] }, word)
			port = nameIn(len(d.Ports), func(i int) string { return d.Ports[i].Name }, word)
			got := nums(impl.InstanceNamed(d, word), impl.NetNamed(d, word), impl.PortNamed(d, word))
			checkNumbers(t, name+": "+word, got, instance, net, port)
		}
	}
}
