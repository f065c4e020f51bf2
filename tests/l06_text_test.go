package tests

import (
	"strconv"
	"testing"

	"loop.example/g00861/impl"
)

// The texts of designs and of instances.

func TestMaxDesignText(t *testing.T) {
	checkNumbers(t, "limit", nums(impl.MaxDesignText), 6000)
}

func checkDesignText(t *testing.T, c designCase, want string) {
	t.Helper()
	if got := impl.DesignText(c.l, c.d); got != want {
		t.Errorf("%s: DesignText is %q; want %q", c.name, got, want)
	}
}

// mixedText is the text of mixedDesign.
const mixedText = "net na\nnet nb\nnet nc\nnet nd\nnet ne\nnet nf\nnet ng\n" +
	"port o out nd\nport ck in na\nport u1 out na\nport e in ne\nport na in ng\n" +
	"inst ff flop nc na nd nb\ninst u1 inv nb nc\ninst lat full na nb nb ne nd\ninst u3 and nd nf nf\n"

func TestHandWrittenDesigns(t *testing.T) {
	checkDesignText(t, designCase{"mixed design", pinLibrary(), mixedDesign()}, mixedText)
	checkDesignText(t, designCase{"one inverter", pinLibrary(), ring(1)}, "net n0\ninst u0 inv n0 n0\n")
	checkDesignText(t, designCase{"ring", pinLibrary(), ring(2)}, "net n0\nnet n1\ninst u0 inv n0 n1\ninst u1 inv n1 n0\n")
	checkDesignText(t, designCase{"one port", impl.Library{}, ports(1, 0)}, "net n0\nport i0 in n0\n")
	checkDesignText(t, designCase{"ports", impl.Library{}, ports(2, 1)}, "net n0\nnet n1\nport i0 in n0\nport i1 in n1\nport o0 out n0\n")
	wide := impl.Design{Nets: []string{"x", "y"}, Instances: []impl.Instance{inst("w", wideCell, 0, 1, 0, 0, 1)}, Ports: []impl.Port{inPort("w", 0)}}
	checkDesignText(t, designCase{"five pins", pinLibrary(), wide}, "net x\nnet y\nport w in x\ninst w wide x y x x y\n")
}

func TestDesignText(t *testing.T) {
	for _, c := range append(sampleDesigns(), smallDesigns()...) {
		checkDesignText(t, c, textOfDesign(c.l, c.d))
	}
}

// The order of the nets and of the ports is that of the design, not that of their names.
func TestDesignTextKeepsTheOrder(t *testing.T) {
	d := impl.Design{Nets: []string{"z", "a", "m"}, Ports: []impl.Port{outPort("y", 2), inPort("b", 1), inPort("x", 0)}, Instances: []impl.Instance{inst("u9", invCell, 1, 2)}}
	checkDesignText(t, designCase{"order", pinLibrary(), d}, "net z\nnet a\nnet m\nport y out m\nport b in a\nport x in z\ninst u9 inv a m\n")
	d.Nets[0], d.Nets[1] = d.Nets[1], d.Nets[0]
	checkDesignText(t, designCase{"other names", pinLibrary(), d}, "net a\nnet z\nnet m\nport y out m\nport b in z\nport x in a\ninst u9 inv z m\n")
}

func TestDesignTextOfNoDesign(t *testing.T) {
	for n := range impl.MaxCells + 1 {
		checkDesignText(t, designCase{"no design of " + strconv.Itoa(n) + " cells", numbered(n), impl.Design{}}, "")
	}
	for _, c := range invalidDesigns() {
		checkDesignText(t, c, "")
	}
}

func checkInstanceText(t *testing.T, c designCase, instance int64, want string) {
	t.Helper()
	if got := impl.InstanceText(c.l, c.d, instance); got != want {
		t.Errorf("%s: InstanceText(%d) = %q; want %q", c.name, instance, got, want)
	}
}

func TestInstanceText(t *testing.T) {
	mixed := designCase{"mixed design", pinLibrary(), mixedDesign()}
	for i, want := range []string{"inst ff flop nc na nd nb", "inst u1 inv nb nc", "inst lat full na nb nb ne nd", "inst u3 and nd nf nf"} {
		checkInstanceText(t, mixed, int64(i), want)
	}
	for _, c := range append(sampleDesigns(), smallDesigns()...) {
		for i, instance := range c.d.Instances {
			checkInstanceText(t, c, int64(i), instanceText(c.l, c.d, instance))
		}
		for _, i := range outside(len(c.d.Instances)) {
			checkInstanceText(t, c, i, "")
		}
	}
	for _, c := range invalidDesigns() {
		for _, i := range append(numbersTo(-2, 16), outside(4)...) {
			checkInstanceText(t, c, i, "")
		}
	}
}
