package tests

import (
	"testing"

	"loop.example/g00861/impl"
)

// Delays, slews and bounds of single links.

// checkTimes compares both delays of a link in a corner, and both slews, with what they must be.
func checkTimes(t *testing.T, c impl.Corner, text string, slew, early, late, earlySlew, lateSlew int64) {
	t.Helper()
	b := rampBlock()
	i := link(t, b, text)
	checkLinkDelay(t, text, b, c, i, slew, impl.Early, early, impl.ErrNone)
	checkLinkDelay(t, text, b, c, i, slew, impl.Late, late, impl.ErrNone)
	checkLinkSlew(t, text, b, i, slew, impl.Early, earlySlew, impl.ErrNone)
	checkLinkSlew(t, text, b, i, slew, impl.Late, lateSlew, impl.ErrNone)
}

// The load of u1 lies between the elements of the axis, that of u2 beyond the last one, that of u3
// before the first one.
func TestPlainTimesOfCells(t *testing.T) {
	c := plainCorner()
	checkTimes(t, c, "u1/i0:f u1/y:r", 0, 14, 14, 116, 116)
	checkTimes(t, c, "u1/i0:f u1/y:r", 1, 16, 17, 116, 116)
	checkTimes(t, c, "u1/i0:f u1/y:r", 6, 27, 28, 128, 129)
	checkTimes(t, c, "u1/i0:f u1/y:r", 10, 36, 36, 178, 178)
	checkTimes(t, c, "u1/i0:f u1/y:r", 1000000, 36, 36, 240, 240)
	checkTimes(t, c, "u2/i0:f u2/y:r", 0, 20, 20, 140, 140)
	checkTimes(t, c, "u2/i0:f u2/y:r", 1, 22, 23, 140, 140)
	checkTimes(t, c, "u2/i0:f u2/y:r", 14, 45, 45, 284, 284)
	checkTimes(t, c, "u3/i0:f u3/y:r", 0, 10, 10, 100, 100)
	checkTimes(t, c, "u3/i0:f u3/y:r", 14, 30, 30, 190, 190)
}

// The tables are those for the transition of the end, which is not that of the beginning.
func TestTablesOfTheEnd(t *testing.T) {
	c := plainCorner()
	for _, u := range []string{"u1", "u2", "u3"} {
		text := u + "/i0:r " + u + "/y:f"
		checkTimes(t, c, text, 0, 7, 7, 9, 9)
		checkTimes(t, c, text, 1, 8, 9, 9, 9)
		checkTimes(t, c, text, 20, 28, 28, 9, 9)
		checkTimes(t, c, text, 1000000, 28, 28, 9, 9)
	}
}

// Each sink has the delay of its own node.
func TestPlainTimesOfWires(t *testing.T) {
	c := plainCorner()
	for _, way := range []string{":r", ":f"} {
		checkTimes(t, c, "a"+way+" u1/i0"+way, 0, 4, 4, 8, 8)
		checkTimes(t, c, "a"+way+" u1/i0"+way, 6, 4, 4, 10, 10)
		checkTimes(t, c, "a"+way+" u1/i0"+way, 1000000, 4, 4, 1000000, 1000000)
		checkTimes(t, c, "u1/y"+way+" u2/i0"+way, 4, 1, 2, 5, 5)
		checkTimes(t, c, "u1/y"+way+" u2/i0"+way, 5, 1, 2, 5, 6)
		checkTimes(t, c, "u1/y"+way+" u3/i0"+way, 0, 0, 1, 0, 1)
		checkTimes(t, c, "u1/y"+way+" o"+way, 7, 0, 0, 7, 7)
		checkTimes(t, c, "u2/y"+way+" p"+way, 7, 0, 0, 7, 7)
	}
}

// The corner scales the delays by the factor of the kind of the link, but never the slews.
func TestScaledTimes(t *testing.T) {
	c := corner(500, 2000, 250, 3000)
	checkTimes(t, c, "u1/i0:f u1/y:r", 0, 7, 28, 116, 116)
	checkTimes(t, c, "u1/i0:r u1/y:f", 0, 3, 14, 9, 9)
	checkTimes(t, c, "a:r u1/i0:r", 6, 1, 12, 10, 10)
	checkTimes(t, c, "u1/y:f u2/i0:f", 4, 0, 6, 5, 5)
	checkTimes(t, corner(100, 100, 5000, 5000), "u1/i0:f u1/y:r", 0, 1, 2, 116, 116)
	checkTimes(t, corner(100, 100, 5000, 5000), "a:r u1/i0:r", 0, 20, 20, 8, 8)
	checkTimes(t, corner(5000, 5000, 100, 100), "u1/i0:f u1/y:r", 0, 70, 70, 116, 116)
	checkTimes(t, corner(5000, 5000, 100, 100), "a:r u1/i0:r", 0, 0, 1, 8, 8)
}

// The exact values are 16.2 and 22.8: 1.1 times the former is 17.82, 0.95 times the latter 21.66. On
// the wire 1.5 times 1.5 is 2.25, and 1.5 times 0.7 is 1.05.
func TestDelaysAreRoundedTwice(t *testing.T) {
	checkTimes(t, spreadCorner(), "u1/i0:f u1/y:r", 1, 15, 19, 116, 116)
	checkTimes(t, spreadCorner(), "u1/i0:f u1/y:r", 4, 20, 26, 116, 116)
	checkTimes(t, spreadCorner(), "u1/y:r u2/i0:r", 4, 0, 3, 5, 5)
}

// The examples of the document.
func TestConstantTimes(t *testing.T) {
	b := ringBlock(1)
	for _, slew := range nums(0, 1, 500, 1000000) {
		checkLinkDelay(t, "constant", b, corner(1000, 1100, 1000, 1000), 1, slew, impl.Late, 11, impl.ErrNone)
		checkLinkSlew(t, "constant", b, 1, slew, impl.Late, 20, impl.ErrNone)
	}
	checkBounds(t, "constant", b, corner(1000, 1100, 1000, 1000), 1, span(10, 11), impl.ErrNone)
}

// On the longest wire the slew grows by 420000, so that it exceeds MaxSlew.
func TestSlewsAreAtMostMaxSlew(t *testing.T) {
	b := longestBlock()
	for _, c := range []struct{ slew, early, late int64 }{
		{0, 420000, 420000}, {907523, 999998, 999999}, {907524, 999999, 1000000}, {907525, 1000000, 1000000}, {999999, 1000000, 1000000}, {1000000, 1000000, 1000000},
	} {
		for _, link := range nums(0, 1, 111) {
			checkLinkSlew(t, "longest", b, link, c.slew, impl.Early, c.early, impl.ErrNone)
			checkLinkSlew(t, "longest", b, link, c.slew, impl.Late, c.late, impl.ErrNone)
		}
	}
	checkLinkDelay(t, "longest", b, corner(100, 100, 100, 5000), 111, 1000000, impl.Late, 1050000, impl.ErrNone)
	checkLinkDelay(t, "longest", b, corner(100, 100, 100, 5000), 111, 1000000, impl.Early, 21000, impl.ErrNone)
	checkLinkDelay(t, "widest", widestBlock(), corner(100, 5000, 100, 100), 0, 0, impl.Late, 5000000, impl.ErrNone)
	checkLinkSlew(t, "a wire of half a unit", lineBlock(1), 0, 1000000, impl.Late, 1000000, impl.ErrNone)
}

// checkLink compares all that is told of a link at a slew with what it must be.
func checkLink(t *testing.T, name string, b impl.Block, c impl.Corner, i int64, times linkTimes, slew int64) {
	t.Helper()
	early, late := times.delayIn(c, slew, impl.Early), times.delayIn(c, slew, impl.Late)
	checkLinkDelay(t, name, b, c, i, slew, impl.Early, early, impl.ErrNone)
	checkLinkDelay(t, name, b, c, i, slew, impl.Late, late, impl.ErrNone)
	checkLinkSlew(t, name, b, i, slew, impl.Early, times.slewBehind(slew, impl.Early), impl.ErrNone)
	checkLinkSlew(t, name, b, i, slew, impl.Late, times.slewBehind(slew, impl.Late), impl.ErrNone)
	bounds, code := impl.LinkDelayBounds(b, c, i)
	if early > late || early < bounds.Early || late > bounds.Late || code != impl.ErrNone {
		t.Errorf("%s, link %d at %d in %v: %d..%d is not within %v, %d", name, i, slew, c, early, late, bounds, code)
	}
}

// Every link of many blocks has, at many slews, the delays and slews of the chapter; the early delay
// is at most the late one, and both lie within the bounds.
func TestTimesOfAllLinks(t *testing.T) {
	corners := sampleCorners()
	for _, block := range tabledBlocks() {
		for i, times := range timesByChapter(block.b) {
			slews := times.slewsNear()
			if i%4 > 0 {
				slews = slews[len(slews)-2:]
			}
			for _, slew := range append(slews, 5, 80) {
				checkLink(t, block.name, block.b, corners[i%len(corners)], int64(i), times, slew)
			}
		}
	}
}

// In the block with the most links, the last one has the index 335.
func TestTimesOfTheFullBlock(t *testing.T) {
	b := tabled(fullBlock(), 1)
	for i, times := range timesByChapter(b) {
		if i%10 == 5 {
			checkLink(t, "full", b, spreadCorner(), int64(i), times, 17)
		}
	}
}

// In every corner.
func TestTimesOfAllCorners(t *testing.T) {
	b := tabled(arcBlock(), 5)
	for _, c := range sampleCorners() {
		for i, times := range timesByChapter(b) {
			for _, slew := range nums(0, 9, 60) {
				checkLink(t, "arcs", b, c, int64(i), times, slew)
			}
		}
	}
}

// A greater late factor never makes a late delay smaller, and a smaller early one never makes an
// early delay greater. The factor of the other kind or of the other mode changes nothing.
func TestDelaysFollowTheirFactors(t *testing.T) {
	b := tabled(arcBlock(), 6)
	for i, times := range timesByChapter(b) {
		for _, slew := range nums(0, 13, 40) {
			early, late := int64(0), int64(0)
			for _, factor := range nums(100, 101, 500, 999, 1000, 1001, 2500, 4999, 5000) {
				own, other := corner(factor, factor, 100, 5000), corner(100, 5000, factor, factor)
				if times.link.Kind == impl.LinkWire {
					own, other = other, own
				}
				nextEarly, _ := impl.LinkDelay(b, own, int64(i), slew, impl.Early)
				nextLate, _ := impl.LinkDelay(b, own, int64(i), slew, impl.Late)
				if nextEarly < early || nextLate < late {
					t.Errorf("link %d at %d: with the factor %d the delays %d, %d become %d, %d", i, slew, factor, early, late, nextEarly, nextLate)
				}
				early, late = nextEarly, nextLate
				checkLinkDelay(t, "other factors", b, other, int64(i), slew, impl.Early, times.delayIn(corner(100, 5000, 100, 5000), slew, impl.Early), impl.ErrNone)
				checkLinkDelay(t, "other factors", b, other, int64(i), slew, impl.Late, times.delayIn(corner(100, 5000, 100, 5000), slew, impl.Late), impl.ErrNone)
			}
		}
	}
}
