package tests

import (
	"slices"
	"strconv"
	"strings"
	"testing"

	"loop.example/g00861/impl"
)

// KindOfLine, and what can be no line of a text.

// rightLines are lines of each kind, taken by themselves.
func rightLines() map[int64][]string {
	return map[int64][]string{
		1: {
			"cell inv gate 3 5", "cell a flop 0 0", "cell abcdefgh latch 100000 100000", "cell z9999999 gate 99999 10",
			"cell cell gate 0 0", "cell gate gate 7 0",
		},
		2: {
			"pin a in 4", "pin y out", "pin ck clock 0", "pin z9 in 500", "pin abcd1234 clock 500", "pin d in 0", "pin d in 499",
			"pin pin in 10", "pin in in 100", "pin out out", "pin clock clock 99",
		},
		3: {
			"arc comb a y pos 0|0|1 0|0|2 0|0|3 0|0|4", "arc comb a y neg 0|0|1 0|0|2 0|0|3 0|0|4",
			"arc comb abcdefgh y0000000 both 0,10|3,4,5|0,1,2,3,4,5 0|0|1000000 1,2,3,100000|7|0,0,0,0 0|0|0",
			"arc rise ck q 0|0|1 0|0|2 0|0|3 0|0|4", "arc fall ck q 0|0|1 0|0|2 0|0|3 0,1|2,3|4,5,6,7",
			"arc setup ck d 0|0|5 0|0|6", "arc hold ck d 0|0|-5 1,2|3|-1000000,1000000",
			// The form says nothing of which pins there are, nor of the signs of values.
			"arc comb a a pos 0|0|1 0|0|2 0|0|3 0|0|4", "arc hold d d 0|0|5 0|0|6", "arc comb pos neg both 0|0|1 0|0|2 0|0|3 0|0|4",
			"arc rise setup hold 0|0|1 0|0|2 0|0|3 0|0|4",
			"arc comb a y pos 0|0|-1 0|0|-2 0|0|-3 0|0|-1000000", "arc fall ck q 0|0|1 0|0|2 0|0|-3 0|0|4",
		},
		4: {"truth 01", "truth 00", "truth 1111", "truth 0110", "truth 00010111", "truth 0000000000000000", "truth 1000000000000001"},
	}
}

func allRightLines() []string {
	return slices.Concat(rightLines()[1], rightLines()[2], rightLines()[3], rightLines()[4])
}

func TestKindsOfLines(t *testing.T) {
	for kind, lines := range rightLines() {
		for _, line := range lines {
			checkNumbers(t, line, nums(impl.KindOfLine(line), kindByForm(line)), kind, kind)
			for _, end := range []string{"\n", "\r", "\r\n", "\n\n", " ", "\x00", "\n" + line, "\n" + line + "\n", " " + line} {
				checkNoLine(t, line+end)
			}
			for _, start := range []string{"\n", "\r\n", " ", "\t", "\x00", "\ufeff"} {
				checkNoLine(t, start+line)
			}
		}
	}
	for _, c := range append(validCells(), gatesWithInputs()...) {
		for line := range strings.SplitSeq(strings.TrimSuffix(impl.CellText(c), "\n"), "\n") {
			want := placeOf(strings.Fields(line)[0], []string{"", "cell", "pin", "arc", "truth"})
			checkNumbers(t, line, nums(impl.KindOfLine(line)), want)
		}
	}
}

func checkNoLine(t *testing.T, line string) {
	t.Helper()
	if kind, byForm := impl.KindOfLine(line), kindByForm(line); kind != 0 || byForm != 0 {
		t.Errorf("KindOfLine(%.200q) = %d, by its form %d; want 0", line, kind, byForm)
	}
}

func TestNoLines(t *testing.T) {
	list := []string{
		"", " ", "  ", "\t", "\n", "\n\n", "\r", "\r\n", "\x00", "\xff", "-", "0", "#", "cell", "pin", "arc", "truth", "cell ", "pin ", "arc ", "truth ",
		"gate", "in", "out", "clock", "comb", "net a", "port a in b", "inst u1 inv n1 n2", "wire n1 -1|0|5|0,0", "0|0|1",
		"cell inv", "cell inv gate", "cell inv gate 3", "cell gate 3 5", "cell inv 1 3 5", "cell inv gates 3 5", "cell inv Gate 3 5", "cell inv comb 3 5",
		"cell gate inv 3 5", "cell inv gate 3 5 7", "cell inv gate 3,5", "cell inv gate 3 5 pin a in 2", "cells inv gate 3 5", "Cell inv gate 3 5", "cell  gate 3 5",
		"pin a", "pin in 4", "pin a in", "pin a in 4 5", "pin a clock", "pin a out 0", "pin a out out", "pin a output", "pin a inout 4", "pin a 1 4", "pin a  4", "pins a in 4",
		"pin in a 4", "pin a in 4 clock", "pin a out\x00",
		"arc comb a y 0|0|1 0|0|2 0|0|3 0|0|4", "arc comb a y pos neg 0|0|1 0|0|2 0|0|3 0|0|4", "arc comb a y 1 0|0|1 0|0|2 0|0|3 0|0|4",
		"arc comb a y  0|0|1 0|0|2 0|0|3 0|0|4", "arc comb a y POS 0|0|1 0|0|2 0|0|3 0|0|4", "arc comb pos a y 0|0|1 0|0|2 0|0|3 0|0|4",
		"arc comb a pos 0|0|1 0|0|2 0|0|3 0|0|4", "arc rise ck q pos 0|0|1 0|0|2 0|0|3 0|0|4", "arc fall ck q both 0|0|1 0|0|2 0|0|3 0|0|4",
		"arc setup ck d pos 0|0|5 0|0|6", "arc hold ck d neg 0|0|5 0|0|6", "arc  a y pos 0|0|1 0|0|2 0|0|3 0|0|4", "arc gate a y pos 0|0|1 0|0|2 0|0|3 0|0|4",
		"arc ck q 0|0|1 0|0|2 0|0|3 0|0|4", "arc 2 ck q 0|0|1 0|0|2 0|0|3 0|0|4", "arc rise 0 1 0|0|1 0|0|2 0|0|3 0|0|4",
		"arc setup ck d 0|0|5,0|0|6", "arc setup ck d 0|0|5|0|0|6", "arc setup ck d 0|0|5",
		"truth", "truth ", "truth 0 1", "truth 0,1", "truth 01 01", "truth 0110 ", "Truth 01", "truth01", "truths 01", "01",
		strings.Repeat("truth 01 ", 10000), "truth " + strings.Repeat("01", 1000000), "pin " + strings.Repeat("a", 1000000) + " out",
		"cell inv gate 3 " + strings.Repeat("0", 1000000), strings.Repeat(" ", 1000000), strings.Repeat("arc comb a y pos", 100000),
	}
	for _, line := range list {
		checkNoLine(t, line)
	}
}

// With each length of the word just four lengths are right.
func TestLengthsOfTruthLines(t *testing.T) {
	for n := range 70 {
		want := int64(0)
		if n == 2 || n == 4 || n == 8 || n == 16 {
			want = 4
		}
		for _, digit := range []string{"0", "1"} {
			line := "truth " + strings.Repeat(digit, n)
			checkNumbers(t, line, nums(impl.KindOfLine(line)), want)
		}
	}
	for _, line := range []string{"truth 01", "truth 0110", "truth 00010111", "truth 1000000000000001"} {
		for i := len("truth "); i < len(line); i++ {
			for b := range 256 {
				if b != '0' && b != '1' {
					checkNoLine(t, line[:i]+string([]byte{byte(b)})+line[i+1:])
				}
			}
		}
	}
	// Two bytes that are one digit of another script.
	checkNoLine(t, "truth \u0660")
	checkNoLine(t, "truth 0\u0661")
}

// Just one number of tables is right for each kind of arc, with a sense only for comb.
func TestTablesOfArcLines(t *testing.T) {
	for _, word := range []string{"comb", "rise", "fall", "setup", "hold", "gate", ""} {
		for _, sense := range []string{"", " pos", " neg", " both", " 0", " posneg"} {
			for n := range 8 {
				line := "arc " + word + " a b" + sense + strings.Repeat(" 0|0|1", n)
				want := int64(0)
				switch word {
				case "comb":
					if n == 4 && slices.Contains([]string{" pos", " neg", " both"}, sense) {
						want = 3
					}
				case "rise", "fall":
					if n == 4 && sense == "" {
						want = 3
					}
				case "setup", "hold":
					if n == 2 && sense == "" {
						want = 3
					}
				}
				checkNumbers(t, line, nums(impl.KindOfLine(line), kindByForm(line)), want, want)
			}
		}
	}
}

// wordsReplaced returns lines that have other words in place of those that a condition holds of.
func wordsReplaced(line string, isOne func(words []string, i int) bool, others []string) []string {
	var list []string
	words := strings.Split(line, " ")
	for i := range words {
		if isOne(words, i) {
			for _, other := range others {
				changed := slices.Clone(words)
				changed[i] = other
				list = append(list, strings.Join(changed, " "))
			}
		}
	}
	return list
}

func isNameWord(words []string, i int) bool {
	return i == 1 && (words[0] == "cell" || words[0] == "pin") || (i == 2 || i == 3) && words[0] == "arc"
}

func isNumberWord(words []string, i int) bool {
	return i >= 3 && (words[0] == "cell" || words[0] == "pin")
}

func isTableWord(words []string, i int) bool {
	return strings.Contains(words[i], "|")
}

// isKeyWord holds of the words that are one of few.
func isKeyWord(words []string, i int) bool {
	return !isNameWord(words, i) && !isNumberWord(words, i) && !isTableWord(words, i) && (i == 0 || words[0] != "truth")
}

func noNumbers() []string {
	return []string{
		"", "00", "01", "007", "00000000000000000000004", "+0", "+1", "+", "-", "-0", "-1", "-500", "--1", "100001", "100010", "1000000",
		"9223372036854775807", "9223372036854775808", "-9223372036854775808", "-9223372036854775809", "18446744073709551616", "18446744073709551617",
		"1" + strings.Repeat("0", 100), strings.Repeat("9", 100), "-" + strings.Repeat("9", 100), "4.", "4.0", ".4", "0x4", "0b1", "0o7", "1e2", "1_0", "_1",
		"4,", "4,5", "4\t", "\t4", "4\r", "4\n", "4\x00", "x", "4x", "x4", "in", "NaN", "Inf", "\u0664", "\uff14", "\u22124", "\xff",
	}
}

// noKeyWords are no words of any kind, and no beginnings of a line.
func noKeyWords() []string {
	return []string{"", "-", "|", "0", "1", "2", "x", "gat", "gatee", "GATE", "Gate", "cells", "pi", "ins", "oot", "clocks", "rises", "poss", "\x00", "gate\t", "\u0433ate", "in4", "name"}
}

// wordsMoved returns lines with one word too little or too much.
func wordsMoved(line string) []string {
	var list []string
	words := strings.Split(line, " ")
	for i, word := range words {
		list = append(list, strings.Join(slices.Delete(slices.Clone(words), i, i+1), " "))
		for _, more := range []string{word, "", "0", "x", "0|0|0", "in", "pos"} {
			list = append(list, strings.Join(slices.Insert(slices.Clone(words), i, more), " "))
			list = append(list, strings.Join(slices.Insert(slices.Clone(words), i+1, more), " "))
		}
	}
	return list
}

// blanksReplaced returns lines with other bytes than a single blank between two words.
func blanksReplaced(line string) []string {
	var list []string
	for i := range line {
		if line[i] == ' ' {
			for _, other := range []string{"", "  ", "   ", "\t", " \t", "\t ", "\r", "\v", "\f", "\x00", ",", "|", "\u00a0", "\u2003", "\x85"} {
				list = append(list, line[:i]+other+line[i+1:])
			}
		}
	}
	return list
}

// wrongLines are lines that can be no lines of a text, most of them just so.
func wrongLines() []string {
	var list []string
	for _, line := range allRightLines() {
		list = append(list, wordsReplaced(line, isNameWord, badNames())...)
		list = append(list, wordsReplaced(line, isNumberWord, noNumbers())...)
		list = append(list, wordsReplaced(line, isTableWord, textsOfNoTable())...)
		list = append(list, wordsReplaced(line, isKeyWord, noKeyWords())...)
		list = append(list, wordsMoved(line)...)
		list = append(list, blanksReplaced(line)...)
		if strings.HasPrefix(line, "pin ") {
			list = append(list, wordsReplaced(line, isNumberWord, []string{"501", "510", "999", "1000", "100000"})...)
		}
	}
	return list
}

func TestWrongLines(t *testing.T) {
	for _, line := range wrongLines() {
		checkNoLine(t, line)
	}
}

func TestNumbersOfLines(t *testing.T) {
	for _, c := range []struct {
		before, after string
		most          int
	}{{"cell a gate ", " 0", 100000}, {"cell a flop 0 ", "", 100000}, {"pin a in ", "", 500}, {"pin a clock ", "", 500}} {
		for _, v := range []int{-100001, -501, -1, 0, 1, 9, 10, 99, 100, 499, 500, 501, 502, 99999, 100000, 100001, 100002, 1 << 32, 1<<32 + 1} {
			line := c.before + strconv.Itoa(v) + c.after
			want := placeOf(line[:3], []string{"", "cel", "pin"})
			if v < 0 || v > c.most {
				want = 0
			}
			checkNumbers(t, line, nums(impl.KindOfLine(line)), want)
		}
	}
}

// Every line that differs from a right one in one byte has the kind that follows from its form.
func TestLinesNearRightLines(t *testing.T) {
	for _, line := range allRightLines() {
		for _, near := range textsNear(line) {
			if got, want := impl.KindOfLine(near), kindByForm(near); got != want {
				t.Errorf("KindOfLine(%q) = %d; want %d", near, got, want)
			}
		}
	}
}
