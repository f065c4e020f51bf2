package tests

import (
	"slices"
	"strings"
	"testing"

	"loop.example/g00861/impl"
)

// Promise 2, as far as it is about blocks: blocks are recovered from their texts. And the errors of
// ReadBlock.

// sampleBlocks are valid blocks of no, one and several nets, with wires of one and of several nodes.
func sampleBlocks() []impl.Block {
	var list []impl.Block
	for _, c := range append(sampleDesigns(), smallDesigns()...) {
		list = append(list, blockFrom(c))
	}
	return list
}

// invalidBlocks are blocks that are not valid by chapter 7.
func invalidBlocks() []impl.Block {
	var list []impl.Block
	for _, c := range invalidDesigns() {
		b := impl.Block{Library: c.l, Design: c.d}
		for net := range c.d.Nets {
			b.Wires = append(b.Wires, wireFor(1, net))
		}
		list = append(list, b)
	}
	for _, change := range []func(b *impl.Block){
		func(b *impl.Block) { b.Wires = nil },
		func(b *impl.Block) { b.Wires = b.Wires[1:] },
		func(b *impl.Block) { b.Wires = append(b.Wires, wireFor(0, 0)) },
		func(b *impl.Block) { b.Wires[0] = impl.Wire{} },
		func(b *impl.Block) { b.Wires[6].Sink = nums(0) },
		func(b *impl.Block) { b.Wires[1].Sink = nil },
		func(b *impl.Block) { b.Wires[2].Cap[0] = impl.MaxCap + 1 },
		func(b *impl.Block) { b.Wires[3].Parent[0] = 0 },
	} {
		b := blockFrom(designCase{"mixed design", pinLibrary(), mixedDesign()})
		change(&b)
		list = append(list, b)
	}
	return list
}

// checkBlockText compares BlockText with the text that a block must have.
func checkBlockText(t *testing.T, b impl.Block, want string) {
	t.Helper()
	if got := impl.BlockText(b); got != want {
		t.Errorf("BlockText(%+v) = %q; want %q", b, got, want)
	}
}

func TestBlockText(t *testing.T) {
	checkBlockText(t, impl.Block{}, "")
	checkBlockText(t, impl.Block{Library: pinLibrary()}, "")
	small := impl.Block{Design: ports(2, 1), Wires: []impl.Wire{
		{Parent: nums(-1, 0, 0), Res: nums(0, 1000, 0), Cap: nums(500, 0, 12), Sink: nums(2)},
		{Parent: nums(-1), Res: nums(0), Cap: nums(0)},
	}}
	checkBlockText(t, small, "net n0\nnet n1\nport i0 in n0\nport i1 in n1\nport o0 out n0\nwire n0 -1,0,0|0,1000,0|500,0,12|2\nwire n1 -1|0|0|\n")
	for _, b := range sampleBlocks() {
		checkBlockText(t, b, textOfBlock(b))
	}
	for _, b := range invalidBlocks() {
		checkBlockText(t, b, "")
	}
}

func TestBlocksAreRecovered(t *testing.T) {
	for _, b := range sampleBlocks() {
		checkBlockAnswer(t, b.Library, impl.BlockText(b), b, impl.ErrNone)
		checkBlockAnswer(t, b.Library, textOfBlock(b), b, impl.ErrNone)
	}
	for n := range impl.MaxCells + 1 {
		checkBlockAnswer(t, numbered(n), "", impl.Block{Library: numbered(n)}, impl.ErrNone)
	}
}

// A text of a design without wires is the text of a block only if it has no nets.
func TestBlocksWithoutWires(t *testing.T) {
	for _, c := range append(sampleDesigns(), smallDesigns()...) {
		text := textOfDesign(c.l, c.d)
		if text != "" {
			checkNoBlock(t, c.l, text)
		}
		checkReadBlock(t, c.l, text)
	}
}

func TestErrorsOfReadBlock(t *testing.T) {
	const limit = 6000
	whole := textOfBlock(blockFrom(designCase{"mixed design", pinLibrary(), mixedDesign()}))
	long := strings.Repeat("x", limit+1)
	for _, l := range invalidLibraries() {
		for _, text := range []string{"", "x", mixedText, whole, long} {
			checkBlockAnswer(t, l, text, impl.Block{}, impl.ErrInvalid)
		}
	}
	for _, l := range []impl.Library{{}, pinLibrary()} {
		wires := strings.Repeat("wire na -1|0|0|0\n", limit)
		for _, text := range []string{long, whole + strings.Repeat("\n", limit+1-len(whole)), wires, strings.Repeat("ä", limit/2+1), strings.Repeat("\xff", limit+1)} {
			checkBlockAnswer(t, l, text, impl.Block{}, impl.ErrLimit)
		}
		for _, text := range []string{long[1:], whole + strings.Repeat("\n", limit-len(whole)), wires[:limit], strings.Repeat("ä", limit/2), strings.Repeat("\n", limit), "\n", " ", "x", "wire", "wire \n", "wire a -1|0|0|\n"} {
			checkNoBlock(t, l, text)
		}
	}
}

func TestSpoiltBlocks(t *testing.T) {
	b := blockFrom(designCase{"mixed design", pinLibrary(), mixedDesign()})
	lines := linesOf(textOfBlock(b))
	first := len(lines) - len(b.Wires)
	for i, line := range lines {
		without := slices.Delete(slices.Clone(lines), i, i+1)
		checkNoBlock(t, b.Library, textOfLines(without))
		for k := range lines {
			checkNoBlock(t, b.Library, textOfLines(slices.Insert(slices.Clone(lines), k, line)))
			checkReadBlock(t, b.Library, textOfLines(slices.Insert(slices.Clone(without), k, line)))
		}
		for _, spoilt := range spoiltLines(line) {
			if spoilt != line && i >= first {
				checkNoBlock(t, b.Library, textOfLines(withLine(lines, i, spoilt)))
			}
		}
	}
	for _, end := range []string{"", "\r\n", " \n", "\n\n", "\nwire", "\nnet x\n", "\nwire na -1|0|0|\n"} {
		checkNoBlock(t, b.Library, strings.TrimSuffix(textOfBlock(b), "\n")+end)
	}
	for _, bad := range invalidBlocks() {
		if impl.IsDesign(bad.Library, bad.Design) && len(bad.Wires) <= len(bad.Design.Nets) {
			checkNoBlock(t, bad.Library, textOfBlock(bad))
		}
	}
}

// Every text that differs from that of a block in one byte is either that of another block or
// refused.
func TestReadBlockReadsOnlyWhatBlockTextWrites(t *testing.T) {
	for _, c := range smallDesigns() {
		for _, near := range textsNear(textOfBlock(blockFrom(c))) {
			checkReadBlock(t, c.l, near)
		}
	}
}
