package tests

import (
	"fmt"
	"slices"
	"testing"

	"loop.example/g00861/impl"
)

// RestoreLinks and IsMinimalBreak.

// From links outside of loops nothing remains.
func TestLinksOutsideOfLoopsAreRestored(t *testing.T) {
	for _, b := range []impl.Block{backBlock(), forkBlock(), longestBlock(), fedBackBlock(fallCell, 2)} {
		for _, broken := range brokenLists(len(linksByChapter(b))) {
			checkRemaining(t, "no loop", b, broken)
		}
	}
	b := betweenBlock()
	cut := linksNamed(t, b, "y/i0:r y/y:r", "x/y:f y/i0:f", "z/y:r v/i1:r", "v/i1:f v/y:f")
	outside := linksNamed(t, b, "x/y:r m/i0:r", "m/i0:r m/y:r", "m/y:f v/i0:f", "q:r x/i1:r", "x/i1:f x/y:f", "v/i0:f v/y:f")
	both := slices.Sorted(slices.Values(append(slices.Clone(cut), outside...)))
	checkRemaining(t, "between", b, both, cut...)
	checkRemaining(t, "between", b, cut, cut...)
	checkNoneRemaining(t, "between", b, outside, impl.ErrLoop)
}

// Of the links of one loop the first ones are made live again and the last one stays: another order
// would give another list.
func TestTheOrderOfRestoredLinksMatters(t *testing.T) {
	b := sameRing(1)
	checkRemaining(t, "the ring of 1", b, nums(0, 1, 2, 3), 2, 3)
	checkRemaining(t, "the ring of 1", b, nums(0, 1, 3), 0, 3)
	checkRemaining(t, "the ring of 1", b, nums(1, 2), 1, 2)
	checkRemaining(t, "3 inverters", ringBlock(3), numbersTo(0, 11), 11)
	checkRemaining(t, "3 inverters", ringBlock(3), nums(2, 7, 9), 9)
	checkRemaining(t, "2 inverters", ringBlock(2), nums(0, 2, 3), 2, 3)
}

// In nested, the link of s is on both rings, and that of v on one of them only. As that of s stays
// broken, that of v is made live; where that of s is live, it is not.
func TestLinksThatAreRestoredForOthers(t *testing.T) {
	b := nestedBlock()
	s := linksNamed(t, b, "s/i0:r s/y:r", "s/i0:f s/y:f")
	checkRemaining(t, "nested", b, linksNamed(t, b, "s/i0:r s/y:r", "s/i0:f s/y:f", "v/i0:r v/y:r"), s...)
	checkRemaining(t, "nested", b, linksNamed(t, b, "s/i0:r s/y:r", "s/i0:f s/y:f", "v/i0:r v/y:r", "v/i0:f v/y:f"), s...)
	// With the other ring broken behind it, that of s is made live, and then that of v stays.
	broken := linksNamed(t, b, "s/i0:r s/y:r", "s/i0:f s/y:f", "v/i0:r v/y:r", "s/y:r u/i1:r")
	checkRemaining(t, "nested", b, broken, without(broken, linksNamed(t, b, "s/i0:r s/y:r")[0])...)
}

func TestNothingToRestore(t *testing.T) {
	for _, broken := range [][]int64{nil, {}} {
		checkRemaining(t, "zero", impl.Block{}, broken)
		checkRemaining(t, "back", backBlock(), broken)
		checkNoneRemaining(t, "2 inverters", ringBlock(2), broken, impl.ErrLoop)
		checkNoneRemaining(t, "arcs", arcBlock(), broken, impl.ErrLoop)
	}
}

func TestListsThatLeaveALoop(t *testing.T) {
	for link := range int64(8) {
		checkNoneRemaining(t, "2 inverters", ringBlock(2), nums(link), impl.ErrLoop)
		checkMinimal(t, "2 inverters", ringBlock(2), nums(link), false)
	}
	checkNoneRemaining(t, "2 inverters", ringBlock(2), nums(0, 3, 4, 7), impl.ErrLoop)
	b := apartBlock()
	checkNoneRemaining(t, "apart", b, without(breaksByChapter(b), breaksByChapter(b)[3]), impl.ErrLoop)
}

func TestMinimalBreaks(t *testing.T) {
	checkMinimal(t, "zero", impl.Block{}, nil, true)
	checkMinimal(t, "back", backBlock(), nil, true)
	checkMinimal(t, "back", backBlock(), []int64{}, true)
	checkMinimal(t, "ring", ringBlock(2), nil, false)
	for link := range int64(10) {
		checkMinimal(t, "back", backBlock(), nums(link), false)
	}
	// The loops of two inverters in a ring are 0, 7, 3, 4 and 1, 6, 2, 5.
	first, second := nums(0, 3, 4, 7), nums(1, 2, 5, 6)
	for a := range int64(8) {
		for b := a + 1; b < 8; b++ {
			checkMinimal(t, "2 inverters", ringBlock(2), nums(a, b), slices.Contains(first, a) != slices.Contains(first, b))
		}
	}
	checkMinimal(t, "one too many", ringBlock(2), nums(0, 1, 2), false)
	checkMinimal(t, "one too many", ringBlock(2), nums(0, 2, 3), false)
	checkMinimal(t, "all of one loop", ringBlock(2), first, false)
	checkMinimal(t, "all of the other loop", ringBlock(2), second, false)
	checkMinimal(t, "all", ringBlock(2), numbersTo(0, 7), false)
}

// In nested, one link of s cuts both rings of a transition, which may be cut by one link each as well.
func TestMinimalBreaksOfDifferentLength(t *testing.T) {
	b := nestedBlock()
	checkMinimal(t, "one link each", b, linksNamed(t, b, "s/i0:r s/y:r", "s/i0:f s/y:f"), true)
	checkMinimal(t, "two links for Rise", b, linksNamed(t, b, "v/i0:r v/y:r", "s/y:r u/i1:r", "s/i0:f s/y:f"), true)
	checkMinimal(t, "two links each", b, linksNamed(t, b, "v/i0:r v/y:r", "s/y:r u/i1:r", "v/i0:f v/y:f", "u/i1:f u/y:f"), true)
	checkMinimal(t, "one too many", b, linksNamed(t, b, "v/i0:r v/y:r", "s/i0:r s/y:r", "s/i0:f s/y:f"), false)
	// What the rule breaks need not be minimal.
	checkMinimal(t, "the rule", b, breaksByChapter(b), false)
	checkMinimal(t, "the rule", sharedBlock(), breaksByChapter(sharedBlock()), true)
}

// allLists returns all lists of some of the links.
func allLists(links []int64) [][]int64 {
	list := [][]int64{nil}
	for _, link := range links {
		for _, start := range slices.Clone(list) {
			list = append(list, append(slices.Clone(start), link))
		}
	}
	return list
}

func TestAllBreaksOfSmallBlocks(t *testing.T) {
	for _, b := range []impl.Block{ringBlock(1), sameRing(1), ringBlock(2), sameRing(2)} {
		for _, broken := range allLists(numbersTo(0, int64(len(linksByChapter(b))-1))) {
			checkBreaks(t, "a ring", b, broken)
		}
	}
	for _, block := range []wiredBlock{{"nested", nestedBlock()}, {"shared", sharedBlock()}, {"both", bothRing(1)}} {
		var even, odd []int64
		for i := range int64(len(linksByChapter(block.b))) {
			if i%2 == 0 {
				even = append(even, i)
			} else {
				odd = append(odd, i)
			}
		}
		for _, part := range allLists(even) {
			// A list that cuts everything else.
			checkBreaks(t, block.name, block.b, slices.Sorted(slices.Values(append(slices.Clone(part), odd[:4]...))))
		}
	}
}

func TestBreaksOfListsOfBlocks(t *testing.T) {
	restored, loops := 0, 0
	for _, block := range loopBlocks() {
		for _, broken := range cutLists(block.b) {
			checkBreaks(t, block.name, block.b, broken)
			if isLoopFree(linksByChapter(block.b), broken) {
				restored++
			} else {
				loops++
			}
		}
	}
	if restored < 100 || loops < 100 {
		t.Errorf("only %d lists leave no loop and %d one", restored, loops)
	}
}

func TestBreaksOfListsOfDrawnBlocks(t *testing.T) {
	for i, b := range sampleBlocks() {
		for _, broken := range [][]int64{nil, breaksByChapter(b), numbersTo(0, int64(len(linksByChapter(b))-1))} {
			checkBreaks(t, fmt.Sprint("sample ", i), b, broken)
		}
	}
	checkBreaks(t, "full", fullBlock(), breaksByChapter(fullBlock()))
	checkBreaks(t, "full", fullBlock(), numbersTo(0, 335))
}

// Promise 9: what RestoreLinks leaves of a list without a loop is a part of it and a minimal break.
func TestRestoredLinksAreMinimal(t *testing.T) {
	for _, block := range append(loopBlocks(), wiredBlock{"full", fullBlock()}) {
		for _, broken := range cutLists(block.b) {
			rest, code := impl.RestoreLinks(block.b, broken)
			has, _ := impl.HasLoop(block.b, broken)
			if has != (code == impl.ErrLoop) {
				t.Errorf("%s: RestoreLinks(%v) gives %d; a loop: %v", block.name, broken, code, has)
			}
			if has {
				continue
			}
			isMinimal, minimalCode := impl.IsMinimalBreak(block.b, rest)
			if !isMinimal || code != impl.ErrNone || minimalCode != impl.ErrNone {
				t.Errorf("%s: RestoreLinks(%v) gives %v, %d, which is minimal: %v, %d", block.name, broken, rest, code, isMinimal, minimalCode)
			}
			part := slices.DeleteFunc(slices.Clone(broken), func(link int64) bool { return !slices.Contains(rest, link) })
			checkNumbers(t, fmt.Sprintf("%s: RestoreLinks(%v), in the list", block.name, broken), rest, part...)
			checkRemaining(t, block.name+", again", block.b, rest, rest...)
		}
	}
}
