package tests

import (
	"strconv"
	"strings"
	"testing"

	"loop.example/g00861/impl"
)

// Promise 2, as far as it is about edits: edits are recovered from their texts. And the texts that
// are of none.

// checkReadEdit compares ReadEdit with what it must answer.
func checkReadEdit(t *testing.T, b impl.Block, text string, want impl.Edit, code int64) {
	t.Helper()
	if e, got := impl.ReadEdit(b, text); got != code || !sameEdits(e, want) {
		t.Errorf("ReadEdit(%.200q) = %+v, %d; want %+v, %d", text, e, got, want, code)
	}
}

func checkNoEdit(t *testing.T, b impl.Block, text string) {
	t.Helper()
	checkReadEdit(t, b, text, impl.Edit{}, impl.ErrSyntax)
}

// checkEditText looks whether an edit has a text and is recovered from it.
func checkEditText(t *testing.T, b impl.Block, e impl.Edit, want string) {
	t.Helper()
	if got := impl.EditText(b, e); got != want {
		t.Errorf("EditText(%+v) = %q; want %q", e, got, want)
	}
	checkReadEdit(t, b, want, e, impl.ErrNone)
}

// editTexts are edits of switchBlock and their texts.
func editTexts() []struct {
	e    impl.Edit
	text string
} {
	return []struct {
		e    impl.Edit
		text string
	}{
		{swap(u1Output, bigGate), "swap u1/y big"},
		{swap(u2Output, andGate), "swap u2/y and"},
		{swap(ffOutput, fallFlop), "swap ff/q fall"},
		{buffer(u1Input, invGate, "x"), "buffer u1/i0 inv x"},
		{buffer(u2Second, bigGate, "o1"), "buffer u2/i1 big o1"},
		{buffer(o3Place, bigGate, "a1234567"), "buffer o3 big a1234567"},
		{move(u2First, 0, 0), "move u2/i0 n0 0"},
		{move(u4Input, 1, 3), "move u4/i0 n1 3"},
		{move(o1Place, 5, 0), "move o1 ck 0"},
		{move(ffClock, 2, 1), "move ff/ck n2 1"},
		{rewire(0, wire(nums(-1), nums(0), nums(500), 0)), "wire n0 -1|0|500|0"},
		{rewire(1, wire(nums(-1, 0), nums(0, 1000), nums(5, 0), 1, 0, 0, 1)), "wire n1 -1,0|0,1000|5,0|1,0,0,1"},
		{rewire(5, switchBlock().Wires[5]), "wire ck -1|0|2|0"},
	}
}

func TestEditTexts(t *testing.T) {
	for _, c := range editTexts() {
		checkEditText(t, switchBlock(), c.e, c.text)
	}
	checkEditText(t, bufferBlock(), unbuffer(), "unbuffer")
	checkEditText(t, bufferBlock(), swap(3, invGate), "swap x/z inv")
	checkEditText(t, bufferBlock(), move(4, 0, 0), "move o n0 0")
	bare := impl.Block{Design: ports(1, 0), Wires: []impl.Wire{wire(nums(-1), nums(0), nums(7))}}
	checkEditText(t, bare, rewire(0, wire(nums(-1, 0), nums(0, 1), nums(2, 3))), "wire n0 -1,0|0,1|2,3|")
	longest := longestBlock()
	checkEditText(t, longest, rewire(0, longest.Wires[0]), "wire all "+textOfWire(longest.Wires[0]))
}

func TestEditsAreRecovered(t *testing.T) {
	for _, block := range editBlocks() {
		for _, e := range editsNear(block.b) {
			if codeOfEdit(block.b, e) == impl.ErrNone {
				checkReadEdit(t, block.b, textOfEdit(block.b, e), e, impl.ErrNone)
			}
		}
	}
}

// editOfText returns the possible edit that has a text, and whether there is one.
func editOfText(b impl.Block, text string) (impl.Edit, bool) {
	words := strings.Split(text, " ")
	kind := placeOf(words[0], []string{"", "swap", "buffer", "unbuffer", "move", "wire"})
	if text == "" || kind < 1 || len(words) != []int{0, 3, 4, 1, 4, 3}[kind] {
		return impl.Edit{}, false
	}
	places := spotsOf(b.Library, b.Design)
	place := func() int64 { return nameIn(len(places), func(i int) string { return places[i].name }, words[1]) }
	cell := func() int64 {
		return nameIn(len(b.Library.Cells), func(i int) string { return b.Library.Cells[i].Name }, words[2])
	}
	net := func(name string) int64 {
		return nameIn(len(b.Design.Nets), func(i int) string { return b.Design.Nets[i] }, name)
	}
	var e impl.Edit
	switch kind {
	case impl.EditSwap:
		e = swap(place(), cell())
	case impl.EditBuffer:
		e = buffer(place(), cell(), words[3])
	case impl.EditUnbuffer:
		e = unbuffer()
	case impl.EditMove:
		node, err := strconv.Atoi(words[3])
		if err != nil {
			return impl.Edit{}, false
		}
		e = move(place(), net(words[2]), int64(node))
	case impl.EditWire:
		e = rewire(net(words[1]), wireOfLine(text))
	}
	if codeOfEdit(b, e) != impl.ErrNone || textOfEdit(b, e) != text {
		return impl.Edit{}, false
	}
	return e, true
}

// checkEditOfText compares ReadEdit with what chapter 8 says of a text.
func checkEditOfText(t *testing.T, b impl.Block, text string) {
	t.Helper()
	if want, ok := editOfText(b, text); ok {
		checkReadEdit(t, b, text, want, impl.ErrNone)
	} else {
		checkNoEdit(t, b, text)
	}
}

// Every text that differs from that of an edit in one byte is either that of another edit or of none.
func TestReadEditReadsOnlyWhatEditTextWrites(t *testing.T) {
	l := library(named("g", gate(nums(0, 1))), named("h", gate(nums(1, 0))))
	d := impl.Design{Nets: []string{"a", "b", "c"}, Ports: []impl.Port{inPort("i", 0), outPort("o", 1), inPort("j", 2)}, Instances: []impl.Instance{inst("u", 1, 0, 1)}}
	b := impl.Block{Library: l, Design: d, Wires: []impl.Wire{wire(nums(-1, 0), nums(0, 1), nums(2, 3), 1), wire(nums(-1), nums(0), nums(0), 0), wire(nums(-1), nums(0), nums(0))}}
	for _, e := range []impl.Edit{swap(1, 0), buffer(3, 0, "d"), move(3, 0, 1), rewire(0, wire(nums(-1, 0), nums(0, 9), nums(1, 2), 0))} {
		checkEditOfText(t, b, textOfEdit(b, e))
		for _, near := range textsNear(textOfEdit(b, e)) {
			checkEditOfText(t, b, near)
		}
	}
	buffered := editedBlock(b, buffer(3, 0, "d"))
	for _, near := range append(textsNear("unbuffer"), "unbuffer") {
		checkEditOfText(t, buffered, near)
	}
}

func TestSpoiltWordsOfEdits(t *testing.T) {
	b := switchBlock()
	others := []string{"", "x", "swap", "buffer", "unbuffer", "move", "wire", "inv", "and", "u1", "u1/", "/y", "u1/y", "u1/i0", "u1/z", "u9/y", "n1", "n9", "o1", "in", "0", "1", "-1", "00", "+0", "-0", "01", "4", "\n", "-1|0|0|0", "-1|0|0|", "U1/y"}
	for _, c := range editTexts() {
		words := strings.Split(c.text, " ")
		for i, word := range words {
			for _, other := range append(others, spoiltNumbers(word)...) {
				checkEditOfText(t, b, strings.Join(withLine(words, i, other), " "))
			}
			checkNoEdit(t, b, strings.Join(append(append([]string{}, words[:i]...), words[i+1:]...), " "))
			checkNoEdit(t, b, strings.Join(append(append([]string{}, words[:i+1]...), words[i:]...), " "))
			checkNoEdit(t, b, strings.Join(withLine(words, i, strings.ToUpper(word)+"X"), " "))
		}
		for _, text := range []string{
			c.text + " ", " " + c.text, c.text + "\n", "\n" + c.text, c.text + " 0", c.text + " x", c.text + "\r", "\ufeff" + c.text, c.text + c.text, c.text + " " + c.text, c.text + "\x00",
			strings.Replace(c.text, " ", "  ", 1), strings.ReplaceAll(c.text, " ", "  "), strings.ReplaceAll(c.text, " ", "\t"), strings.ReplaceAll(c.text, " ", "\n"), strings.ReplaceAll(c.text, " ", ""),
			strings.ReplaceAll(c.text, " ", "\u00a0"),
		} {
			checkNoEdit(t, b, text)
		}
	}
	for _, text := range []string{"unbuffer ", " unbuffer", "unbuffer x", "unbuffer 0", "unbuffer\n", "Unbuffer", "unbuf", "unbufferx", "unbuffer unbuffer", "buffer"} {
		checkNoEdit(t, bufferBlock(), text)
	}
}

func TestSpoiltNodesOfMoves(t *testing.T) {
	b := switchBlock()
	for node := range int64(4) {
		text := "move u4/i0 n1 "
		checkEditText(t, b, move(u4Input, 1, node), text+strconv.FormatInt(node, 10))
		for _, spoilt := range spoiltNumbers(strconv.FormatInt(node, 10)) {
			checkNoEdit(t, b, text+spoilt)
		}
	}
	checkNoEdit(t, b, "move u4/i0 n1 4")
	checkNoEdit(t, b, "move u4/i0 n1 -1")
}

// Texts in the form of edits that are not possible.
func TestTextsOfImpossibleEdits(t *testing.T) {
	for _, text := range []string{
		"swap u1/i0 inv", "swap in inv", "swap o1 inv", "swap u1/y and", "swap ff/q held", "swap ff/q late",
		"buffer u1/y inv x", "buffer in inv x", "buffer u1/i0 and x", "buffer u1/i0 tick x", "buffer u1/i0 inv u1", "buffer u1/i0 inv n1", "buffer u1/i0 inv X", "buffer u1/i0 inv ninebytes", "buffer u1/i0 inv ",
		"unbuffer", "move u1/y n1 0", "move in n1 0", "move u2/i0 n1 0", "move o3 n1 3",
		"wire n0 -1|0|0|", "wire n0 -1|0|0|0,0", "wire n0 -1|1|0|0", "wire n0 -1|0|501|0", "wire n0 -1|0|0|1", "wire n0 ", "wire n0 |||", "wire n1 -1|0|0|0,0,0",
		"", " ", "\n", "swap", "swap  ", "buffer", "buffer   ", "move", "move   ", "wire", "wire  ", "net x", "x",
	} {
		checkNoEdit(t, switchBlock(), text)
	}
	checkNoEdit(t, ringBlock(14), "buffer u0/i0 inv x")
	checkReadEdit(t, ringBlock(13), "buffer u0/i0 inv x", buffer(0, invGate, "x"), impl.ErrNone)
	for _, long := range []string{strings.Repeat("x", 100000), strings.Repeat(" ", 100000), "swap u1/y " + strings.Repeat("big", 30000), strings.Repeat("swap u1/y big ", 10000), "wire n0 " + strings.Repeat("0,", 100000), "buffer u1/i0 inv " + strings.Repeat("x", 100000)} {
		checkNoEdit(t, switchBlock(), long)
	}
	for _, block := range []impl.Block{{}, {Library: editLibrary()}} {
		for _, text := range []string{"", " ", "unbuffer", "swap u1/y inv", "swap  ", "wire  -1|0|0|", "wire n0 -1|0|0|", "move   0", "buffer  inv x"} {
			checkNoEdit(t, block, text)
		}
	}
}

// An invalid block comes before a text of none.
func TestReadEditOfInvalidBlocks(t *testing.T) {
	for _, b := range invalidBlocks() {
		for _, text := range []string{"", "x", "unbuffer", "swap u1/y inv", "wire na -1|0|0|0", "move u1/i0 na 0", "buffer u1/i0 inv x", strings.Repeat("x", 10000)} {
			checkReadEdit(t, b, text, impl.Edit{}, impl.ErrInvalid)
		}
	}
}
