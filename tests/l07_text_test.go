package tests

import (
	"math"
	"regexp"
	"slices"
	"strings"
	"testing"

	"loop.example/g00861/impl"
)

// Promise 2, as far as it is about wires: wires are recovered from their texts.

// wireTexts are wires and their texts.
func wireTexts() []struct {
	w    impl.Wire
	text string
} {
	return []struct {
		w    impl.Wire
		text string
	}{
		{wire(nums(-1), nums(0), nums(0)), "-1|0|0|"},
		{wire(nums(-1), nums(0), nums(500), 0), "-1|0|500|0"},
		{wire(nums(-1), nums(0), nums(5), 0, 0), "-1|0|5|0,0"},
		{wire(nums(-1, 0), nums(0, 1000), nums(7, 0)), "-1,0|0,1000|7,0|"},
		{wire(nums(-1, 0), nums(0, 500), nums(1, 2), 1), "-1,0|0,500|1,2|1"},
		{treeWire(), "-1,0,0,2,1|0,10,20,30,40|5,6,7,8,9|3,0,4,3"},
		{
			wire(nums(-1, 0, 1, 2, 3, 4, 5, 6), nums(0, 1, 10, 100, 1000, 999, 0, 2), nums(500, 499, 0, 3, 99, 10, 1, 0), 7, 7, 0, 6, 2, 1, 0, 5, 4, 3),
			"-1,0,1,2,3,4,5,6|0,1,10,100,1000,999,0,2|500,499,0,3,99,10,1,0|7,7,0,6,2,1,0,5,4,3",
		},
	}
}

// checkWireText compares WireText with the text that a wire must have for a number of sinks.
func checkWireText(t *testing.T, w impl.Wire, sinks int64, want string) {
	t.Helper()
	if got := impl.WireText(w, sinks); got != want {
		t.Errorf("WireText(%+v, %d) = %q; want %q", w, sinks, got, want)
	}
}

// checkReadWire compares ReadWire with what it must answer.
func checkReadWire(t *testing.T, text string, sinks int64, want impl.Wire, ok bool) {
	t.Helper()
	if w, got := impl.ReadWire(text, sinks); got != ok || !sameWires(w, want) {
		t.Errorf("ReadWire(%.80q, %d) = %+v, %v; want %+v, %v", text, sinks, w, got, want, ok)
	}
}

func checkNoWire(t *testing.T, text string, sinks int64) {
	t.Helper()
	checkReadWire(t, text, sinks, impl.Wire{}, false)
}

func TestWireTexts(t *testing.T) {
	for _, c := range wireTexts() {
		sinks := int64(len(c.w.Sink))
		checkWireText(t, c.w, sinks, c.text)
		checkReadWire(t, c.text, sinks, c.w, true)
		for _, other := range append(numbersTo(-2, 20), outside(len(c.w.Sink)+1)...) {
			if other != sinks {
				checkWireText(t, c.w, other, "")
				checkNoWire(t, c.text, other)
			}
		}
	}
}

func TestWiresAreRecovered(t *testing.T) {
	for _, block := range append(wiredBlocks(), wiredBlock{"longest", longestBlock()}, wiredBlock{"branches", branchBlock()}) {
		for _, w := range block.b.Wires {
			sinks := int64(len(w.Sink))
			text := impl.WireText(w, sinks)
			if text != textOfWire(w) {
				t.Errorf("%s: %+v has the text %q", block.name, w, text)
			}
			checkReadWire(t, text, sinks, w, true)
		}
	}
	for sinks := range int64(101) {
		w, _ := impl.LumpedWire(sinks, 5*sinks)
		checkReadWire(t, impl.WireText(w, sinks), sinks, w, true)
	}
}

func TestWiresWithoutText(t *testing.T) {
	for _, fresh := range []func() impl.Wire{treeWire, func() impl.Wire { return wireTexts()[6].w }} {
		for _, w := range wrongWires(fresh()) {
			checkWireText(t, w, int64(len(fresh().Sink)), "")
			checkNoWire(t, textOfWire(w), int64(len(fresh().Sink)))
		}
	}
	checkWireText(t, impl.Wire{}, 0, "")
	checkWireText(t, impl.Wire{}, -1, "")
	for _, list := range []func(w impl.Wire) []int64{
		func(w impl.Wire) []int64 { return w.Parent },
		func(w impl.Wire) []int64 { return w.Res },
		func(w impl.Wire) []int64 { return w.Cap },
		func(w impl.Wire) []int64 { return w.Sink },
	} {
		for i := range list(treeWire()) {
			for _, v := range valuesAround() {
				w := treeWire()
				list(w)[i] = v
				checkWireOfText(t, textOfWire(w), 4)
				if !impl.IsWire(w, 4) {
					checkWireText(t, w, 4, "")
					checkNoWire(t, textOfWire(w), 4)
				}
			}
		}
	}
}

// The form allows numbers that are too great by a little; IsWire refuses these.
const wireNumbers = `((?:0|-?[1-9][0-9]{0,4})(?:,(?:0|-?[1-9][0-9]{0,4}))*)`

var wireForm = regexp.MustCompile(`\A` + wireNumbers + `\|` + wireNumbers + `\|` + wireNumbers + `\|` + wireNumbers + `?\z`)

// wireOfText returns the valid wire with a text, and whether there is one, without WireText.
func wireOfText(text string, sinks int64) (impl.Wire, bool) {
	parts := wireForm.FindStringSubmatch(text)
	if parts == nil {
		return impl.Wire{}, false
	}
	var lists [4][]int64
	for i, part := range parts[1:] {
		for _, word := range strings.FieldsFunc(part, func(r rune) bool { return r == ',' }) {
			lists[i] = append(lists[i], numberOf(word))
		}
	}
	w := wire(lists[0], lists[1], lists[2], lists[3]...)
	if !impl.IsWire(w, sinks) {
		return impl.Wire{}, false
	}
	return w, true
}

// checkWireOfText compares ReadWire with the form of the texts of wires.
func checkWireOfText(t *testing.T, text string, sinks int64) {
	t.Helper()
	want, ok := wireOfText(text, sinks)
	checkReadWire(t, text, sinks, want, ok)
}

// Every text that differs from that of a wire in one byte, and every beginning of it, is either the
// text of another wire or refused.
func TestReadWireReadsOnlyWhatWireTextWrites(t *testing.T) {
	for _, c := range wireTexts() {
		for sinks := int64(len(c.w.Sink)) - 1; sinks <= int64(len(c.w.Sink))+1; sinks++ {
			for _, near := range textsNear(c.text) {
				checkWireOfText(t, near, sinks)
			}
			for i := range c.text {
				checkWireOfText(t, c.text[:i], sinks)
				checkWireOfText(t, c.text[i:], sinks)
			}
		}
	}
}

// spoiltNumbers are words that are no number of a text, or none that a wire may have.
func spoiltNumbers(word string) []string {
	return []string{
		"", "+" + word, "0" + word, "00" + word, "-" + word, "--" + word, "-0" + word, " " + word, word + " ", "\t" + word, word + "\t", "\n" + word, word + "\n", word + "\r\n",
		word + "\x00", word + "x", "x" + word, word + ".0", word + ".", word + "e0", word + "_0", "0x" + word, "_" + word, word + ",", "," + word, word + ",,", word + "," + word,
		"-2", "1001", "-", "+", "x", "nil", "\u0660", "\uff10", "\u2212" + word, "\xff", word + "\x80", "\u00a0" + word,
		"9223372036854775807", "9223372036854775808", "-9223372036854775808", "-9223372036854775809", "18446744073709551615", "18446744073709551616", "18446744073709551617",
		"1" + strings.Repeat("0", 200), strings.Repeat("0", 200) + word, "-" + strings.Repeat("9", 200),
	}
}

func TestSpoiltNumbersOfWires(t *testing.T) {
	for _, c := range wireTexts() {
		lists := strings.Split(c.text, "|")
		for i, list := range lists {
			words := strings.Split(list, ",")
			for k, word := range words {
				for _, spoilt := range spoiltNumbers(word) {
					text := strings.Join(withLine(lists, i, strings.Join(withLine(words, k, spoilt), ",")), "|")
					if text != c.text {
						checkNoWire(t, text, int64(len(c.w.Sink)))
					}
				}
			}
		}
	}
}

func TestSpoiltListsOfWires(t *testing.T) {
	for _, c := range wireTexts() {
		sinks := int64(len(c.w.Sink))
		lists := strings.Split(c.text, "|")
		for i, list := range lists {
			checkNoWire(t, strings.Join(slices.Delete(slices.Clone(lists), i, i+1), "|"), sinks)
			checkNoWire(t, strings.Join(slices.Insert(slices.Clone(lists), i, list), "|"), sinks)
			checkNoWire(t, strings.Join(slices.Insert(slices.Clone(lists), i, ""), "|"), sinks)
			if list != "" {
				checkNoWire(t, strings.Join(withLine(lists, i, ""), "|"), sinks)
			}
			words := strings.Split(list, ",")
			checkNoWire(t, strings.Join(withLine(lists, i, strings.Join(append(words, "0"), ",")), "|"), sinks)
			if len(words) > 1 {
				checkNoWire(t, strings.Join(withLine(lists, i, strings.Join(words[1:], ",")), "|"), sinks)
				checkNoWire(t, strings.Join(withLine(lists, i, strings.Join(words[:len(words)-1], ",")), "|"), sinks)
			}
		}
		for _, text := range []string{c.text + "|", "|" + c.text, c.text + "\n", c.text + " ", " " + c.text, "\n" + c.text, c.text + c.text, c.text + "|" + c.text, "\ufeff" + c.text, c.text + "\xff"} {
			checkNoWire(t, text, sinks)
		}
		for _, bar := range []string{"", " ", ",", ";", "\n", "||", " |", "| ", "\uff5c", "/", "\t", "\xff", "\x00"} {
			checkNoWire(t, strings.ReplaceAll(c.text, "|", bar), sinks)
			checkNoWire(t, strings.Replace(c.text, "|", bar, 1), sinks)
		}
	}
}

func TestTextsOfNoWire(t *testing.T) {
	for _, sinks := range append(numbersTo(-3, 3), math.MinInt64, math.MaxInt64) {
		for _, text := range []string{
			"", " ", "|", "||", "|||", "||||", ",|,|,|,", "-1", "-1|0|0", "-1|0", "0|0|0|", "-1|1|0|", "-1|0|501|", "-1,0|0,1001|0,0|", "-1,1|0,0|0,0|", "-1,-1|0,0|0,0|",
			"-1,0,2|0,0,0|0,0,0|", "-1,2,0|0,0,0|0,0,0|", "-1|0,0|0|", "-1|0|0,0|", "-1,0|0|0|", "-1|0|0||", "-1|0|0|-1", "-1|0|0|1", "-1,0|0,0|0,0|2", "-1|0|-1|",
			"-1,0,0,0,0,0,0,0,0|0,0,0,0,0,0,0,0,0|0,0,0,0,0,0,0,0,0|",
			strings.Repeat("|", 100000), strings.Repeat(",", 100000), strings.Repeat("0,", 100000) + "0|0|0|", "-1|0|0|" + strings.Repeat("0,", 100000) + "0",
		} {
			checkNoWire(t, text, sinks)
		}
	}
	// Two wires of nine and of eight nodes.
	checkNoWire(t, "-1,0,1,2,3,4,5,6,7|0,0,0,0,0,0,0,0,0|0,0,0,0,0,0,0,0,0|", 0)
	checkReadWire(t, "-1,0,1,2,3,4,5,6|0,0,0,0,0,0,0,0|0,0,0,0,0,0,0,0|", 0, wire(nums(-1, 0, 1, 2, 3, 4, 5, 6), make([]int64, 8), make([]int64, 8)), true)
	checkNoWire(t, "-1|0|0|", -1)
	checkReadWire(t, "-1|0|0|", 0, wire(nums(-1), nums(0), nums(0)), true)
}
