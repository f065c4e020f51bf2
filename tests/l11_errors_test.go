package tests

import (
	"fmt"
	"testing"

	"loop.example/g00861/impl"
)

// The errors of layer 11 and their order. Those of CheckTime are tested with it.

// checkDelayErrors looks whether all functions with a link answer with a code, StageDelay for the path
// of this link.
func checkDelayErrors(t *testing.T, name string, b impl.Block, c impl.Corner, link, slew, mode, want int64) {
	t.Helper()
	checkLinkDelay(t, name, b, c, link, slew, mode, 0, want)
	checkLinkSlew(t, name, b, link, slew, mode, 0, want)
	checkStage(t, name, b, c, nums(link), slew, mode, 0, 0, want)
}

func TestDelaysWithWrongNumbers(t *testing.T) {
	for _, block := range []wiredBlock{{"ramp", rampBlock()}, {"arcs", arcBlock()}, {"ports", lineBlock(2000)}} {
		for link := range int64(len(linksByChapter(block.b))) {
			for _, mode := range nums(impl.Early, impl.Late) {
				for _, slew := range noSlews() {
					checkDelayErrors(t, block.name, block.b, spreadCorner(), link, slew, mode, impl.ErrRange)
				}
			}
			for _, mode := range noModes() {
				checkDelayErrors(t, block.name, block.b, spreadCorner(), link, 0, mode, impl.ErrRange)
				checkDelayErrors(t, block.name, block.b, spreadCorner(), link, -1, mode, impl.ErrRange)
			}
		}
	}
}

// A link that is not there comes before wrong numbers.
func TestDelaysOfLinksThatAreNotThere(t *testing.T) {
	for _, block := range append(tabledBlocks(), wiredBlock{"zero", impl.Block{}}) {
		for _, link := range outside(len(linksByChapter(block.b))) {
			for _, slew := range nums(0, -1, 1000001) {
				for _, mode := range nums(impl.Early, impl.Late, -1, 2) {
					checkDelayErrors(t, block.name, block.b, spreadCorner(), link, slew, mode, impl.ErrNotFound)
				}
			}
			checkBounds(t, block.name, block.b, spreadCorner(), link, impl.Span{}, impl.ErrNotFound)
		}
	}
}

// A corner that is not valid comes before all other errors, apart from LinkSlew, which has none.
func TestDelaysOfInvalidCorners(t *testing.T) {
	b := rampBlock()
	for i, c := range invalidCorners() {
		name := fmt.Sprint("invalid corner ", i)
		for _, link := range nums(0, 15, -1, 16) {
			for _, n := range nums(0, 1, -1, 1000001) {
				checkLinkDelay(t, name, b, c, link, n, n, 0, impl.ErrInvalid)
				checkStage(t, name, b, c, nums(link), n, n, 0, 0, impl.ErrInvalid)
			}
			checkBounds(t, name, b, c, link, impl.Span{}, impl.ErrInvalid)
		}
		checkStage(t, name, b, c, nil, 0, impl.Late, 0, 0, impl.ErrInvalid)
		checkStage(t, name, b, c, make([]int64, 101), 0, impl.Late, 0, 0, impl.ErrInvalid)
	}
}

// A block that is not valid comes before all other errors, whatever the corner is.
func TestDelaysOfInvalidBlocks(t *testing.T) {
	for i, b := range brokenBlocks() {
		name := fmt.Sprint("invalid block ", i)
		for _, c := range []impl.Corner{spreadCorner(), {}} {
			for _, n := range nums(0, 1, -1, 1000) {
				checkDelayErrors(t, name, b, c, n, n, n, impl.ErrInvalid)
				checkBounds(t, name, b, c, n, impl.Span{}, impl.ErrInvalid)
			}
			checkStage(t, name, b, c, nil, 0, impl.Late, 0, 0, impl.ErrInvalid)
			checkStage(t, name, b, c, make([]int64, 101), 0, impl.Late, 0, 0, impl.ErrInvalid)
		}
	}
}

// Too many links come before links that are not there, and these before wrong numbers, also where
// there are no links.
func TestOrderOfTheErrorsOfPaths(t *testing.T) {
	b, c := rampBlock(), spreadCorner()
	wrong := make([]int64, 101)
	for _, slew := range nums(3, -1, 1000001) {
		for _, mode := range nums(impl.Late, -1, 2) {
			checkStage(t, "gaps", b, c, wrong, slew, mode, 0, 0, impl.ErrLimit)
			checkStage(t, "gaps", b, c, wrong[:100], slew, mode, 0, 0, impl.ErrNotFound)
			checkStage(t, "no links", b, c, numbersTo(16, 116), slew, mode, 0, 0, impl.ErrLimit)
			checkStage(t, "no links", b, c, numbersTo(16, 115), slew, mode, 0, 0, impl.ErrNotFound)
			checkStage(t, "gap", b, c, nums(0, 0), slew, mode, 0, 0, impl.ErrNotFound)
			checkStage(t, "no link", b, c, nums(0, -1), slew, mode, 0, 0, impl.ErrNotFound)
			if slew != 3 || mode != impl.Late {
				checkStage(t, "one link", b, c, nums(0), slew, mode, 0, 0, impl.ErrRange)
				checkStage(t, "empty", b, c, nil, slew, mode, 0, 0, impl.ErrRange)
				checkStage(t, "zero", impl.Block{}, c, nil, slew, mode, 0, 0, impl.ErrRange)
			}
		}
	}
}
