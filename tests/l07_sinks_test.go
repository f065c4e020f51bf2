package tests

import (
	"fmt"
	"math"
	"math/big"
	"testing"

	"loop.example/g00861/impl"
)

// The delays and slews of sinks.

// checkSinkDelays compares the delays of the sinks of a net with what they must be.
func checkSinkDelays(t *testing.T, name string, b impl.Block, net int64, early, late []int64) {
	t.Helper()
	got, code := impl.SinkDelays(b, net, impl.Early)
	checkList(t, fmt.Sprint(name, ", net ", net, ", early"), got, code, early, impl.ErrNone)
	got, code = impl.SinkDelays(b, net, impl.Late)
	checkList(t, fmt.Sprint(name, ", net ", net, ", late"), got, code, late, impl.ErrNone)
}

func TestSinkDelaysOfBranches(t *testing.T) {
	b := branchBlock()
	checkSinkDelays(t, "branches", b, 0, nums(0, 0, 0), nums(0, 0, 0))
	checkSinkDelays(t, "branches", b, 1, nums(0, 3, 3), nums(1, 4, 4))
	checkSinkDelays(t, "branches", b, 2, nums(7), nums(8))
	checkSinkDelays(t, "branches", b, 3, nums(16, 0, 0), nums(16, 0, 1))
	checkSinkDelays(t, "branches", b, 4, nums(1), nums(2))
	checkSinkDelays(t, "branches", b, 5, nums(0), nums(0))
	checkSinkDelays(t, "branches", b, 6, nil, nil)
}

// lineDelays are delays that are a whole number of picoseconds, and ones that are less or more.
func lineDelays() []int64 {
	return nums(0, 1, 2, 250, 499, 500, 501, 999, 1000, 1001, 1499, 1500, 1999, 2000, 2001, 2500, 99999, 100000, 100001, 300000, 300001, 400000, 499999, 500000, 500001)
}

func TestSinkDelaysOfLines(t *testing.T) {
	for _, delay := range append(lineDelays(), numbersTo(3, 240)...) {
		b := lineBlock(delay)
		delays, code := impl.NodeDelays(b, 0)
		checkList(t, "a line", delays, code, forEachNode(b, 0, delayOf), impl.ErrNone)
		checkNumbers(t, "the delay of a line", delays[2:], delay)
		checkSinkDelays(t, fmt.Sprint("a line of ", delay), b, 0, nums(delay/1000), nums((delay+999)/1000))
	}
}

func TestSinkDelaysOfAllShapes(t *testing.T) {
	for _, block := range wiredBlocks() {
		for net, w := range block.b.Wires {
			var early, late []int64
			for _, node := range w.Sink {
				delay := delayOf(block.b, int64(net), node)
				early, late = append(early, delay/1000), append(late, (delay+999)/1000)
			}
			checkSinkDelays(t, block.name, block.b, int64(net), early, late)
		}
	}
	longest := make([]int64, 4*impl.MaxInstances)
	for i := range longest {
		longest[i] = 210000
	}
	checkSinkDelays(t, "longest", longestBlock(), 0, longest, longest)
}

// compareSquare compares the square of a slew with the exact square of the slew at a sink.
func compareSquare(root, slew, delay int64) int {
	square := func(v int64) *big.Int { return new(big.Int).Mul(big.NewInt(v), big.NewInt(v)) }
	exact := square(1000 * slew)
	return square(1000 * root).Cmp(exact.Add(exact, square(2*delay)))
}

// checkSlew looks whether the early slew at a sink is the greatest number that is not greater than
// the exact one, and the late slew the smallest one that is not smaller.
func checkSlew(t *testing.T, b impl.Block, net, sink, slew, delay int64) {
	t.Helper()
	early, code := impl.SinkSlew(b, net, sink, slew, impl.Early)
	if code != impl.ErrNone || early < 0 || compareSquare(early, slew, delay) > 0 || compareSquare(early+1, slew, delay) <= 0 {
		t.Errorf("the slew %d and the delay %d give the early slew %d, %d", slew, delay, early, code)
	}
	late, code := impl.SinkSlew(b, net, sink, slew, impl.Late)
	if code != impl.ErrNone || late < 0 || compareSquare(late, slew, delay) < 0 || late > 0 && compareSquare(late-1, slew, delay) >= 0 {
		t.Errorf("the slew %d and the delay %d give the late slew %d, %d", slew, delay, late, code)
	}
}

func TestSlews(t *testing.T) {
	for _, c := range []struct{ slew, delay, early, late int64 }{
		{0, 0, 0, 0}, {1, 0, 1, 1}, {1000000, 0, 1000000, 1000000}, {999999, 0, 999999, 999999},
		// Square roots that are exact.
		{3, 2000, 5, 5}, {4, 1500, 5, 5}, {0, 2000, 4, 4}, {0, 500, 1, 1}, {5, 6000, 13, 13}, {300000, 200000, 300000, 300001},
		{300, 200000, 500, 500}, {400, 150000, 500, 500},
		// One more and one less than a square.
		{1, 500, 1, 2}, {3, 500, 3, 4}, {1000, 500, 1000, 1001}, {1000000, 500, 1000000, 1000001}, {2, 1000, 2, 3}, {8, 2000, 8, 9}, {18, 3000, 18, 19},
		// Delays that are no whole number of picoseconds: a little less and a little more than above.
		{3, 1999, 4, 5}, {3, 2001, 5, 6}, {0, 1, 0, 1}, {0, 499, 0, 1}, {0, 501, 1, 2}, {0, 1999, 3, 4}, {0, 2001, 4, 5}, {4, 1499, 4, 5}, {4, 1501, 5, 6},
		{1, 1, 1, 2}, {1000000, 1, 1000000, 1000001}, {0, 1250, 2, 3}, {4, 2000, 5, 6},
	} {
		b := lineBlock(c.delay)
		early, code := impl.SinkSlew(b, 0, 0, c.slew, impl.Early)
		late, lateCode := impl.SinkSlew(b, 0, 0, c.slew, impl.Late)
		if code != impl.ErrNone || lateCode != impl.ErrNone || early != c.early || late != c.late {
			t.Errorf("the slew %d and the delay %d give %d, %d and %d, %d; want %d and %d", c.slew, c.delay, early, code, late, lateCode, c.early, c.late)
		}
	}
}

func TestSlewsAreExact(t *testing.T) {
	slews := append(numbersTo(0, 30), 99, 100, 101, 500, 12345, 333333, 707106, 707107, 999998, 999999, 1000000)
	for _, delay := range append(lineDelays(), numbersTo(1990, 2010)...) {
		b := lineBlock(delay)
		for _, slew := range slews {
			checkSlew(t, b, 0, 0, slew, delay)
		}
	}
	for _, block := range wiredBlocks() {
		for net, w := range block.b.Wires {
			for sink, node := range w.Sink {
				delay := delayOf(block.b, int64(net), node)
				for _, slew := range nums(0, 1, 777, 1000000) {
					checkSlew(t, block.b, int64(net), int64(sink), slew, delay)
				}
			}
		}
	}
}

func TestSlewOfTheLongestWire(t *testing.T) {
	b := longestBlock()
	for _, sink := range nums(0, 1, 54, 55) {
		for _, slew := range append(numbersTo(999900, 1000000), 0, 1, 2) {
			checkSlew(t, b, 0, sink, slew, 210000000)
		}
	}
	early, _ := impl.SinkSlew(b, 0, 55, 1000000, impl.Early)
	late, _ := impl.SinkSlew(b, 0, 55, 1000000, impl.Late)
	// The square is 1000000^2 + 420000^2 = 1176400000000.
	checkNumbers(t, "the longest slews", nums(early, late), 1084619, 1084620)
}

func TestNoSlews(t *testing.T) {
	for _, b := range []impl.Block{branchBlock(), longestBlock(), lineBlock(2000)} {
		for net, w := range b.Wires {
			for _, mode := range nums(impl.Early, impl.Late) {
				for _, sink := range outside(len(w.Sink)) {
					if sink < 0 || sink >= int64(len(w.Sink)) {
						checkNoSlew(t, b, int64(net), sink, 3, mode, impl.ErrRange)
					}
				}
				for sink := range int64(len(w.Sink)) {
					for _, slew := range wrongSlews() {
						checkNoSlew(t, b, int64(net), sink, slew, mode, impl.ErrRange)
					}
				}
			}
		}
	}
}

// wrongSlews are numbers that are no slew of a driver.
func wrongSlews() []int64 {
	return nums(-1, -2, 1000001, 1000002, 1<<32, 1<<32+1, -1<<32, math.MinInt64, math.MinInt64+1, math.MaxInt64)
}

func checkNoSlew(t *testing.T, b impl.Block, net, sink, slew, mode, want int64) {
	t.Helper()
	got, code := impl.SinkSlew(b, net, sink, slew, mode)
	checkList(t, fmt.Sprintf("SinkSlew(%d, %d, %d, %d)", net, sink, slew, mode), nums(got), code, nums(0), want)
}
