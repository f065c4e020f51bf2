package tests

import (
	"slices"
	"testing"

	"loop.example/g00861/impl"
)

// The bounds of the delays of links.

// At the load 8 the delays for the elements of the axis are 14 and 36.
func TestBoundsOfCells(t *testing.T) {
	b := rampBlock()
	rising, falling := link(t, b, "u1/i0:f u1/y:r"), link(t, b, "u1/i0:r u1/y:f")
	checkBounds(t, "ramp", b, plainCorner(), rising, span(14, 36), impl.ErrNone)
	checkBounds(t, "ramp", b, plainCorner(), falling, span(7, 28), impl.ErrNone)
	checkBounds(t, "ramp", b, corner(500, 2000, 100, 5000), rising, span(7, 72), impl.ErrNone)
	checkBounds(t, "ramp", b, corner(500, 2000, 100, 5000), falling, span(3, 56), impl.ErrNone)
	checkBounds(t, "ramp", b, plainCorner(), link(t, b, "u2/i0:f u2/y:r"), span(20, 45), impl.ErrNone)
	checkBounds(t, "ramp", b, plainCorner(), link(t, b, "u3/i0:f u3/y:r"), span(10, 30), impl.ErrNone)
}

func TestBoundsOfWires(t *testing.T) {
	b := rampBlock()
	for _, way := range []string{":r", ":f"} {
		checkBounds(t, "ramp", b, plainCorner(), link(t, b, "a"+way+" u1/i0"+way), span(4, 4), impl.ErrNone)
		checkBounds(t, "ramp", b, plainCorner(), link(t, b, "u1/y"+way+" u2/i0"+way), span(1, 2), impl.ErrNone)
		checkBounds(t, "ramp", b, plainCorner(), link(t, b, "u1/y"+way+" u3/i0"+way), span(0, 1), impl.ErrNone)
		checkBounds(t, "ramp", b, corner(100, 5000, 250, 3000), link(t, b, "a"+way+" u1/i0"+way), span(1, 12), impl.ErrNone)
		checkBounds(t, "ramp", b, corner(100, 5000, 250, 3000), link(t, b, "u2/y"+way+" p"+way), span(0, 0), impl.ErrNone)
	}
}

// ofDelays returns the bounds of the link through an inverter with a table of delays of its rising
// output, which has the load 8.
func ofDelays(t *testing.T, delays impl.Table, c impl.Corner) (impl.Span, int64) {
	t.Helper()
	b := rampBlock()
	b.Library.Cells[0].Arcs[0].Delay[impl.Rise] = delays
	return impl.LinkDelayBounds(b, c, link(t, b, "u1/i0:f u1/y:r"))
}

// The smallest and the greatest delay may be those of any two elements of the axis.
func TestBoundsOfTablesThatAreNotMonotone(t *testing.T) {
	for _, values := range [][]int64{{5, 90, 2, 40}, {5, 2, 90, 40}, {90, 5, 40, 2}, {2, 5, 40, 90}, {40, 2, 5, 90}, {7, 7, 7, 7}} {
		got, code := ofDelays(t, table(nums(3, 20, 50, 100000), nums(0), values...), corner(1000, 2000, 1000, 1000))
		checkList(t, "bounds", nums(got.Early, got.Late), code, nums(slices.Min(values), 2*slices.Max(values)), impl.ErrNone)
	}
}

// The exact delays at the load 8 are 1.6 and 4.4, so that the bounds are rounded, too.
func TestBoundsAreRounded(t *testing.T) {
	delays := table(nums(10, 20), nums(0, 10), 0, 2, 6, 4)
	for _, want := range []struct {
		c    impl.Corner
		span impl.Span
	}{
		{plainCorner(), span(1, 5)}, {corner(500, 500, 1000, 1000), span(0, 3)}, {corner(5000, 5000, 1000, 1000), span(5, 25)}, {corner(999, 1001, 1000, 1000), span(0, 6)},
	} {
		got, code := ofDelays(t, delays, want.c)
		checkList(t, "bounds", nums(got.Early, got.Late), code, nums(want.span.Early, want.span.Late), impl.ErrNone)
	}
}

func TestBoundsOfTablesWithOneSlew(t *testing.T) {
	for _, slew := range nums(0, 9, 100000) {
		got, code := ofDelays(t, table(nums(slew), nums(0, 16), 10, 30), corner(900, 1100, 1000, 1000))
		checkList(t, "bounds", nums(got.Early, got.Late), code, nums(18, 22), impl.ErrNone)
	}
}

// No slew has a delay outside the bounds, and some slew reaches each of them.
func TestBoundsAreReached(t *testing.T) {
	corners := sampleCorners()
	for _, block := range tabledBlocks() {
		for i, times := range timesByChapter(block.b) {
			c := corners[i%len(corners)]
			var early, late []int64
			for _, slew := range times.slewsNear() {
				early = append(early, times.delayIn(c, slew, impl.Early))
				late = append(late, times.delayIn(c, slew, impl.Late))
			}
			checkBounds(t, block.name, block.b, c, int64(i), span(slices.Min(early), slices.Max(late)), impl.ErrNone)
		}
	}
}

// At every slew up to one far beyond the axis.
func TestBoundsOfAllSlews(t *testing.T) {
	b, c := tabled(rampBlock(), 3), corner(970, 1030, 400, 4000)
	for i, times := range timesByChapter(b) {
		early, late := times.delayIn(c, 0, impl.Early), times.delayIn(c, 0, impl.Late)
		for slew := range int64(200) {
			early, late = min(early, times.delayIn(c, slew, impl.Early)), max(late, times.delayIn(c, slew, impl.Late))
		}
		checkBounds(t, "ramp", b, c, int64(i), span(early, late), impl.ErrNone)
	}
}
