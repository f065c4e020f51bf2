package tests

import (
	"regexp"
	"strconv"
	"strings"
	"testing"

	"loop.example/g00861/impl"
)

// Promise 2, as far as it is about tables: tables are recovered from their texts.

func textCases() []struct {
	table impl.Table
	text  string
} {
	return []struct {
		table impl.Table
		text  string
	}{
		{table(nums(0), nums(0), 0), "0|0|0"},
		{table(nums(0), nums(0), -1), "0|0|-1"},
		{table(nums(7), nums(100), -50), "7|100|-50"},
		{table(nums(0, 10), nums(0), 0, 5), "0,10|0|0,5"},
		{table(nums(0), nums(0, 10), 0, -5), "0|0,10|0,-5"},
		{table(nums(0, 4), nums(0, 2), 0, 8, 4, 20), "0,4|0,2|0,8,4,20"},
		{table(nums(100000), nums(99999), 1000000), "100000|99999|1000000"},
		{table(nums(0), nums(100000), -1000000), "0|100000|-1000000"},
		{table(nums(0, 1, 2, 3), nums(4, 5, 6, 100000), 1, -2, 3, -4, 5, -6, 7, -8, 9, -10, 11, -12, 13, -14, 15, -1000000),
			"0,1,2,3|4,5,6,100000|1,-2,3,-4,5,-6,7,-8,9,-10,11,-12,13,-14,15,-1000000"},
	}
}

func TestTableTextValues(t *testing.T) {
	for _, c := range textCases() {
		if text := impl.TableText(c.table); text != c.text {
			t.Errorf("TableText(%v) = %q; want %q", c.table, text, c.text)
		}
		if read, ok := impl.ReadTable(c.text); !ok || !sameTable(read, c.table) {
			t.Errorf("ReadTable(%q) = %v, %v; want %v", c.text, read, ok, c.table)
		}
	}
	for _, bad := range invalidTables() {
		if text := impl.TableText(bad); text != "" {
			t.Errorf("TableText(%v) = %q; want no text", bad, text)
		}
	}
}

func TestTablesAreRecovered(t *testing.T) {
	for _, sample := range sampleTables() {
		text := impl.TableText(sample)
		if read, ok := impl.ReadTable(text); !ok || !sameTable(read, sample) {
			t.Errorf("ReadTable(%q) = %v, %v; want %v", text, read, ok, sample)
		}
	}
	for v := int64(-mostValue); v <= mostValue; v += 997 {
		constant, _ := impl.ConstantTable(v)
		if read, ok := impl.ReadTable(impl.TableText(constant)); !ok || !sameTable(read, constant) {
			t.Errorf("the constant table %d becomes %v, %v", v, read, ok)
		}
	}
}

func textsOfNoTable() []string {
	return []string{
		"", " ", "|", "||", "|||", ",", ",|,|,", "-", "0", "0|", "0|0", "0|0|", "|0|0", "0||0", "||0",
		"0 0 0", "0,0,0", "0|0,0", "0|0|0|", "|0|0|0", "0||0|0", "0|0||0", "0|0|0|0", "0|0|0||", "0/0/0",
		"0|0|1|", "0|0|1|1", "0,|0|1", ",0|0|1", "0|0,|1", "0|,0|1", "0|0|1,", "0|0|,1",
		"0,,1|0|1,2", "0,1|0|1,,2", "0,1|0|1,2,", "0,1|0|,1,2", "0,1|0,|1,2", "0,1,|0|1,2",
		"00|0|0", "0|00|0", "0|0|00", "01|0|0", "0|01|0", "0|0|01", "0|0|-01", "0|0|000000000000000000000001",
		"+0|0|0", "+1|0|0", "0|+1|0", "0|0|+1", "0|0|+0", "0|0|-0", "-0|0|0", "0|-0|0", "0|0|--1", "0|0|-+1", "0|0|-", "0|0|1-",
		" 0|0|0", "0 |0|0", "0| 0|0", "0|0 |0", "0|0| 0", "0|0|0 ", "0, 1|0|1,2", "0|0|- 1", "0|0|0\n", "\n0|0|0", "0|0|0\r\n", "0\t|0|0", "0|0|0\x00",
		"x|0|0", "0|x|0", "0|0|x", "0|0|1x", "0|0|0x1", "0|0|1e3", "0|0|1_0", "0|0|1.0", "0|0|\u0661", "0|0|\xff", "0\uff5c0\uff5c0", "0|0|\u22121",
		"1,1|0|1,2", "0,0|0|1,2", "2,1|0|1,2", "0|1,1|1,2", "0|2,1|1,2", "-1|0|1", "0|-1|1", "-1,0|0|1,2",
		"100001|0|0", "0|100001|0", "0|0|1000001", "0|0|-1000001",
		"9223372036854775807|0|0", "0|9223372036854775808|0", "0|0|9223372036854775807", "0|0|-9223372036854775808", "0|0|-9223372036854775809",
		"18446744073709551616|0|0", "0|18446744073709551616|0", "0|0|18446744073709551616", "0|0|18446744073709551617", "0|0|-18446744073709551616",
		"0|0|1" + strings.Repeat("0", 200), "0|0|" + strings.Repeat("9", 200), "0|0|-" + strings.Repeat("9", 200),
		"0|0|1,2", "0,1|0|1", "0|0,1|1", "0,1|0|1,2,3", "0,1|0,1|1,2,3", "0,1|0,1|1,2,3,4,5",
		"0,1,2,3,4|0|1,2,3,4,5", "0|0,1,2,3,4|1,2,3,4,5",
		"NaN|0|0", "0|0|Inf", "0;1|0|1;2",
		strings.Repeat("|", 100000), strings.Repeat(",", 100000), strings.Repeat("1,", 100000) + "1|0|1", "0|0|" + strings.Repeat("1,", 100000) + "1",
	}
}

func TestReadTableRefuses(t *testing.T) {
	for _, text := range textsOfNoTable() {
		if read, ok := impl.ReadTable(text); ok || !isZeroTable(read) {
			t.Errorf("ReadTable(%.60q) = %v, %v; want no table and false", text, read, ok)
		}
	}
}

// Every text that differs from that of a table in one byte, and every beginning of it, is either
// the text of another table or refused.
func TestReadTableReadsOnlyWhatTableTextWrites(t *testing.T) {
	for _, c := range textCases() {
		for _, near := range textsNear(c.text) {
			checkTableText(t, near)
		}
		for i := range c.text {
			checkTableText(t, c.text[:i])
		}
	}
}

// checkTableText compares ReadTable with the form of the texts of tables.
func checkTableText(t *testing.T, text string) {
	t.Helper()
	want, isText := tableOfText(text)
	if read, ok := impl.ReadTable(text); ok != isText || !sameTable(read, want) {
		t.Errorf("ReadTable(%q) = %v, %v; want %v, %v", text, read, ok, want, isText)
	}
}

// The forms allow numbers that are too great by a little; IsTable refuses these.
const (
	axisForm   = `(?:0|[1-9][0-9]{0,5})(?:,(?:0|[1-9][0-9]{0,5}))*`
	valuesForm = `(?:0|-?[1-9][0-9]{0,6})(?:,(?:0|-?[1-9][0-9]{0,6}))*`
)

var tableForm = regexp.MustCompile(`\A(` + axisForm + `)\|(` + axisForm + `)\|(` + valuesForm + `)\z`)

// tableOfText follows the description of the texts of tables on its own, without TableText.
func tableOfText(text string) (impl.Table, bool) {
	parts := tableForm.FindStringSubmatch(text)
	if parts == nil {
		return impl.Table{}, false
	}
	var lists [3][]int64
	for i, part := range parts[1:] {
		for word := range strings.SplitSeq(part, ",") {
			v, _ := strconv.ParseInt(word, 10, 64)
			lists[i] = append(lists[i], v)
		}
	}
	if !impl.IsTable(table(lists[0], lists[1], lists[2]...)) {
		return impl.Table{}, false
	}
	return table(lists[0], lists[1], lists[2]...), true
}
