package tests

import (
	"math"
	"strings"
	"testing"

	"loop.example/g00861/impl"
)

// Promise 2, as far as it is about times: times are recovered from their texts.

func TestFormatTimeValues(t *testing.T) {
	cases := []struct {
		time int64
		text string
	}{
		{0, "0.000"},
		{1, "0.001"},
		{-1, "-0.001"},
		{50, "0.050"},
		{-50, "-0.050"},
		{100, "0.100"},
		{999, "0.999"},
		{-999, "-0.999"},
		{1000, "1.000"},
		{-1000, "-1.000"},
		{-1001, "-1.001"},
		{1010, "1.010"},
		{-1250, "-1.250"},
		{12345, "12.345"},
		{1000000, "1000.000"},
		{impl.MaxTime - 1, "999999.999"},
		{impl.MaxTime, "1000000.000"},
		{1 - impl.MaxTime, "-999999.999"},
		{-impl.MaxTime, "-1000000.000"},
	}
	for _, c := range cases {
		if text := impl.FormatTime(c.time); text != c.text {
			t.Errorf("FormatTime(%d) = %q; want %q", c.time, text, c.text)
		}
		if time, ok := impl.ParseTime(c.text); !ok || time != c.time {
			t.Errorf("ParseTime(%q) = %d, %v; want %d", c.text, time, ok, c.time)
		}
	}
}

func TestFormatTimeBeyondTheLimits(t *testing.T) {
	for _, time := range []int64{impl.MaxTime + 1, -impl.MaxTime - 1, 2 * impl.MaxTime, math.MaxInt64, math.MinInt64} {
		if text := impl.FormatTime(time); text != "" {
			t.Errorf("FormatTime(%d) = %q; want no text", time, text)
		}
	}
}

func checkRecovered(t *testing.T, time int64) {
	t.Helper()
	text := impl.FormatTime(time)
	if back, ok := impl.ParseTime(text); !ok || back != time {
		t.Fatalf("ParseTime(%q) = %d, %v; want %d", text, back, ok, time)
	}
}

func TestTimesAreRecovered(t *testing.T) {
	for time := int64(-12000); time <= 12000; time++ {
		checkRecovered(t, time)
	}
	for time := int64(-impl.MaxTime); time <= impl.MaxTime; time += 99991 {
		checkRecovered(t, time)
	}
	for near := int64(0); near <= 2000; near++ {
		checkRecovered(t, impl.MaxTime-near)
		checkRecovered(t, near-impl.MaxTime)
	}
}

func textsOfNoTime() []string {
	return []string{
		"", " ", "-", "+", ".", "-.", "-.000", ".000", ".5", "0", "1", "-1", "000", "1000",
		"0.", "1.", "1.5", "1.50", "-1.5", "1.0000", "1.00000", "-0.0500", "0.0",
		"00.000", "01.000", "-01.000", "-00.001", "000000001.000", "0000.050",
		"-0.000", "--1.000", "+1.000", "+0.000", "+-1.000", "-+1.000", "1.-00", "1.+00", "1.000-",
		"1.00x", "x.000", "1x.000", "0x1.000", "1e3.000", "1_0.000", "1.0_0", "1,000", "1,000.000",
		" 1.000", "1.000 ", "1 .000", "1. 000", "1.000\n", "\n1.000", "\t1.000", "1.000\x00", "\x001.000", "1\x00.000",
		"1.000.", ".1.000", "1..000", "1.00.0", "1.0.00", "1.000.000",
		"\u0661.000", "1\uff0e000", "\u22121.000", "1.00\xff", "\xff",
		"1000000.001", "-1000000.001", "1000001.000", "-1000001.000", "9999999.999", "10000000.000", "-10000000.000",
		"9223372036854775.807", "-9223372036854775.808", "9223372036854775.808",
		"18446744073709551.616", "18446744073709552.616", "-18446744073709552.616",
		"NaN", "Inf", strings.Repeat("0", 100) + "1.000", strings.Repeat("9", 100) + ".000", "1." + strings.Repeat("0", 100),
	}
}

func TestParseTimeRefuses(t *testing.T) {
	for _, text := range textsOfNoTime() {
		if time, ok := impl.ParseTime(text); ok || time != 0 {
			t.Errorf("ParseTime(%q) = %d, %v; want 0 and false", text, time, ok)
		}
	}
}

// Every text that differs from that of a time in one byte is either the text of another time or
// refused.
func TestParseTimeReadsOnlyWhatFormatTimeWrites(t *testing.T) {
	for _, text := range []string{"0.000", "-0.050", "1.000", "12.345", "-999999.999", "1000000.000"} {
		for _, near := range textsNear(text) {
			checkText(t, near)
		}
	}
}

// checkText compares ParseTime with the form of the texts of times, read byte by byte.
func checkText(t *testing.T, text string) {
	t.Helper()
	want, isText := timeOfText(text)
	if time, ok := impl.ParseTime(text); time != want || ok != isText {
		t.Errorf("ParseTime(%q) = %d, %v; want %d, %v", text, time, ok, want, isText)
	}
}

// timeOfText follows the description of the texts of times on its own, without FormatTime.
func timeOfText(text string) (int64, bool) {
	rest, negative := strings.CutPrefix(text, "-")
	point := len(rest) - 4
	if point < 1 || point > 7 || rest[point] != '.' || point > 1 && rest[0] == '0' {
		return 0, false
	}
	time := int64(0)
	for i := 0; i < len(rest); i++ {
		if i == point {
			continue
		}
		if rest[i] < '0' || rest[i] > '9' {
			return 0, false
		}
		time = 10*time + int64(rest[i]-'0')
	}
	if time > impl.MaxTime || negative && time == 0 {
		return 0, false
	}
	if negative {
		time = -time
	}
	return time, true
}
