package tests

import (
	"fmt"
	"math/rand"
	"slices"
	"testing"

	"loop.example/g00861/impl"
)

// Delays and slews of paths.

// pathOf returns the links between nodes in order.
func pathOf(t *testing.T, b impl.Block, nodes ...string) []int64 {
	t.Helper()
	var links []int64
	for i := 1; i < len(nodes); i++ {
		links = append(links, link(t, b, nodes[i-1]+" "+nodes[i]))
	}
	return links
}

// The slew 6 becomes 10 at u1, where the delay to the rising output is 36. The slew there is 178, and
// 178.03 at u2, where the delay to the falling output is 28.
func TestDelayOfAPath(t *testing.T) {
	b := rampBlock()
	path := pathOf(t, b, "a:f", "u1/i0:f", "u1/y:r", "u2/i0:r", "u2/y:f", "p:f")
	checkStage(t, "ramp", b, plainCorner(), path, 6, impl.Early, 4+36+1+28, 9, impl.ErrNone)
	checkStage(t, "ramp", b, plainCorner(), path, 6, impl.Late, 4+36+2+28, 9, impl.ErrNone)
	checkStage(t, "ramp", b, corner(500, 2000, 250, 3000), path, 6, impl.Early, 1+18+0+14, 9, impl.ErrNone)
	checkStage(t, "ramp", b, corner(500, 2000, 250, 3000), path, 6, impl.Late, 12+72+6+56, 9, impl.ErrNone)
	for n, want := range []struct{ delay, slew int64 }{{0, 6}, {4, 10}, {40, 178}, {42, 179}, {70, 9}, {70, 9}} {
		checkStage(t, "ramp", b, plainCorner(), path[:n], 6, impl.Late, want.delay, want.slew, impl.ErrNone)
	}
}

// The slew 3 becomes 8.54 at u1: the early one is 8, the late one 9, with which the exact delays are
// 31.6 and 33.8.
func TestSlewsAreHandedOnRounded(t *testing.T) {
	b := rampBlock()
	path := pathOf(t, b, "a:f", "u1/i0:f", "u1/y:r")
	checkStage(t, "ramp", b, plainCorner(), path, 3, impl.Early, 4+31, 153, impl.ErrNone)
	checkStage(t, "ramp", b, plainCorner(), path, 3, impl.Late, 4+34, 166, impl.ErrNone)
}

func TestPathsWithoutLinks(t *testing.T) {
	for _, block := range append(tabledBlocks(), wiredBlock{"zero", impl.Block{}}) {
		for _, slew := range nums(0, 1, 777, 1000000) {
			for _, mode := range nums(impl.Early, impl.Late) {
				checkStage(t, block.name, block.b, spreadCorner(), nil, slew, mode, 0, slew, impl.ErrNone)
				checkStage(t, block.name, block.b, spreadCorner(), []int64{}, slew, mode, 0, slew, impl.ErrNone)
			}
		}
	}
}

// stageByChapter returns the delay and the slew of a path.
func stageByChapter(list []linkTimes, c impl.Corner, path []int64, slew, mode int64) (int64, int64) {
	sum := int64(0)
	for _, i := range path {
		sum += list[i].delayIn(c, slew, mode)
		slew = list[i].slewBehind(slew, mode)
	}
	return sum, slew
}

// drawnPath returns a path of at most n links that begins with a given one.
func drawnPath(list []linkTimes, first int64, n int, draw *rand.Rand) []int64 {
	path := nums(first)
	for len(path) < n {
		var next []int64
		for i, l := range list {
			if l.link.From == list[path[len(path)-1]].link.To {
				next = append(next, int64(i))
			}
		}
		if len(next) == 0 {
			break
		}
		path = append(path, next[draw.Intn(len(next))])
	}
	return path
}

// Paths of all lengths, some of which visit loops several times.
func TestDelaysOfPaths(t *testing.T) {
	draw := rand.New(rand.NewSource(11))
	for k, block := range tabledBlocks() {
		list := timesByChapter(block.b)
		c := sampleCorners()[k%len(sampleCorners())]
		for first := range list {
			path := drawnPath(list, int64(first), 1+draw.Intn(100), draw)
			slew, mode := int64(draw.Intn(120)), int64(draw.Intn(2))
			delay, behind := stageByChapter(list, c, path, slew, mode)
			checkStage(t, block.name, block.b, c, path, slew, mode, delay, behind, impl.ErrNone)
		}
	}
}

// A path is its two parts, the second one taken with the slew at the end of the first one.
func TestPathsOfTwoParts(t *testing.T) {
	draw := rand.New(rand.NewSource(12))
	c := spreadCorner()
	for _, block := range tabledBlocks() {
		list := timesByChapter(block.b)
		if len(list) == 0 {
			continue
		}
		path := drawnPath(list, int64(draw.Intn(len(list))), 12, draw)
		for _, mode := range nums(impl.Early, impl.Late) {
			delay, behind, _ := impl.StageDelay(block.b, c, path, 9, mode)
			for at := range len(path) + 1 {
				first, slew, _ := impl.StageDelay(block.b, c, path[:at], 9, mode)
				checkStage(t, block.name, block.b, c, path[at:], slew, mode, delay-first, behind, impl.ErrNone)
			}
		}
	}
}

// Round a loop of one inverter, whose four links are one closed path.
func TestTheLongestPath(t *testing.T) {
	b := tabled(ringBlock(1), 2)
	list := timesByChapter(b)
	path := slices.Repeat(pathOf(t, b, "u0/i0:r", "u0/y:f", "u0/i0:f", "u0/y:r", "u0/i0:r"), 26)
	for _, mode := range nums(impl.Early, impl.Late) {
		for _, n := range []int{4, 8, 99, 100} {
			delay, behind := stageByChapter(list, spreadCorner(), path[:n], 3, mode)
			checkStage(t, fmt.Sprint(n, " links"), b, spreadCorner(), path[:n], 3, mode, delay, behind, impl.ErrNone)
		}
		for _, n := range []int{101, 102, 104} {
			checkStage(t, fmt.Sprint(n, " links"), b, spreadCorner(), path[:n], 3, mode, 0, 0, impl.ErrLimit)
		}
	}
}

// The greatest delay of a path: 100 links, of which every second one has the greatest delay of a table.
func TestTheGreatestDelayOfAPath(t *testing.T) {
	b := ringBlock(1)
	most := []impl.Table{flat(mostValue), flat(mostValue)}
	b.Library.Cells[invCell].Arcs[0].Delay, b.Library.Cells[invCell].Arcs[0].Slew = most, most
	b.Wires[0] = wire(nums(-1), nums(0), nums(0), 0)
	path := slices.Repeat(pathOf(t, b, "u0/i0:r", "u0/y:f", "u0/i0:f", "u0/y:r", "u0/i0:r"), 25)
	checkStage(t, "greatest", b, corner(5000, 5000, 5000, 5000), path, 0, impl.Late, 50*5*mostValue, mostValue, impl.ErrNone)
	checkStage(t, "greatest", b, corner(5000, 5000, 5000, 5000), path, 1000000, impl.Early, 50*5*mostValue, mostValue, impl.ErrNone)
}

func TestPathsWithAGap(t *testing.T) {
	b := rampBlock()
	path := pathOf(t, b, "a:f", "u1/i0:f", "u1/y:r", "u2/i0:r", "u2/y:f", "p:f")
	for i := range path {
		if i > 0 && i < len(path)-1 {
			gap := slices.Delete(slices.Clone(path), i, i+1)
			checkStage(t, "gap", b, spreadCorner(), gap, 6, impl.Late, 0, 0, impl.ErrNotFound)
		}
		twice := slices.Insert(slices.Clone(path), i, path[i])
		checkStage(t, "twice", b, spreadCorner(), twice, 6, impl.Late, 0, 0, impl.ErrNotFound)
	}
	// The same place with the other transition, and the path from its end to its beginning.
	checkStage(t, "jump", b, spreadCorner(), slices.Concat(path[:1], pathOf(t, b, "u1/i0:r", "u1/y:f")), 6, impl.Late, 0, 0, impl.ErrNotFound)
	slices.Reverse(path)
	checkStage(t, "reverse", b, spreadCorner(), path, 6, impl.Late, 0, 0, impl.ErrNotFound)
}

// A link that is not there, alone and at each place of a path, also behind a gap.
func TestPathsWithLinksThatAreNotThere(t *testing.T) {
	b := rampBlock()
	path := pathOf(t, b, "a:f", "u1/i0:f", "u1/y:r", "u2/i0:r")
	for _, wrong := range outside(16) {
		checkStage(t, "alone", b, spreadCorner(), nums(wrong), 6, impl.Late, 0, 0, impl.ErrNotFound)
		for i := range len(path) + 1 {
			checkStage(t, "inside", b, spreadCorner(), slices.Insert(slices.Clone(path), i, wrong), 6, impl.Late, 0, 0, impl.ErrNotFound)
		}
		checkStage(t, "behind a gap", b, spreadCorner(), nums(path[0], path[0], wrong), 6, impl.Late, 0, 0, impl.ErrNotFound)
	}
	for _, wrong := range nums(0, -1) {
		checkStage(t, "zero", impl.Block{}, spreadCorner(), nums(wrong), 6, impl.Late, 0, 0, impl.ErrNotFound)
	}
}
