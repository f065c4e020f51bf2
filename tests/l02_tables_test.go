package tests

import (
	"math"
	"slices"
	"testing"

	"loop.example/g00861/impl"
)

// The validity, the bounds and the scaling of tables. The tests of promises 2 and 3 use the tables
// of this file.

const mostValue = impl.MaxTableValue

func table(slews, loads []int64, values ...int64) impl.Table {
	return impl.Table{Slews: slews, Loads: loads, Values: values}
}

func nums(list ...int64) []int64 {
	return list
}

// handTables are valid tables of all kinds of shapes and with values near the limits.
func handTables() []impl.Table {
	const far = impl.MaxAxisValue
	return []impl.Table{
		table(nums(0), nums(0), 0),
		table(nums(0), nums(0), -7),
		table(nums(far), nums(far), mostValue),
		table(nums(5), nums(3), -mostValue),
		table(nums(0, 10), nums(0), 0, 5),
		table(nums(0), nums(0, 10), 5, 0),
		table(nums(0, 4), nums(0, 2), 0, 8, 4, 20),
		table(nums(1, 4), nums(2, 9), 7, -8, -9, 10),
		table(nums(0, 1), nums(0, 1), -1, -2, -3, -4),
		table(nums(0, far), nums(0, far), mostValue, mostValue, mostValue, mostValue),
		table(nums(0, far), nums(0, far), -mostValue, -mostValue, -mostValue, -mostValue),
		table(nums(0, far), nums(0, far), -mostValue, mostValue, mostValue, -mostValue),
		table(nums(0, far), nums(0, far), mostValue, mostValue-1, mostValue-1, mostValue),
		table(nums(0, far-1), nums(1, far), 1-mostValue, mostValue, -mostValue, mostValue-1),
		table(nums(3, 7, 20), nums(1, 6), 1, 2, 4, 8, 16, 32),
		table(nums(2, 3), nums(10, 11, 99999, far), 0, 1, 2, 3, -3, -2, -1, 0),
		table(nums(0, 1, 2, 3), nums(5), 9, 7, 8, 9),
		table(nums(0, 13, 14, 99), nums(7, 11, 50, 51),
			0, 1, 1, 2, 3, 5, 8, 13, 21, 34, 55, 89, 144, 233, 377, 610),
		table(nums(0, 13, 50000, far), nums(0, 1, 70000, far),
			mostValue, -mostValue, 3, -3, 17, mostValue, -5, 0, -1, 1, 999, -999, 12345, -54321, 1, -mostValue),
	}
}

// sampleTables are handTables and valid tables of every shape whose elements have no pattern.
func sampleTables() []impl.Table {
	list := handTables()
	seed := int64(1)
	next := func(n int64) int64 {
		seed = seed * 48271 % (1<<31 - 1)
		return seed % n
	}
	axis := func(n int, step int64) []int64 {
		elements := []int64{next(step)}
		for len(elements) < n {
			elements = append(elements, elements[len(elements)-1]+1+next(step))
		}
		return elements
	}
	for slews := 1; slews <= impl.MaxAxis; slews++ {
		for loads := 1; loads <= impl.MaxAxis; loads++ {
			for _, step := range []int64{3, 40, 20000} {
				t := table(axis(slews, step), axis(loads, step))
				for len(t.Values) < slews*loads {
					t.Values = append(t.Values, next(20*step)-10*step)
				}
				list = append(list, t)
			}
		}
	}
	return list
}

// invalidTables are tables that miss each of the conditions, some of them just so.
func invalidTables() []impl.Table {
	const far = impl.MaxAxisValue
	return []impl.Table{
		{},
		table(nums(), nums(), 0),
		table(nil, nums(0)),
		table(nums(0), nil),
		table(nums(), nums(0), 1),
		table(nums(0), nums(), 1),
		table(nums(0, 1, 2, 3, 4), nums(0), 1, 2, 3, 4, 5),
		table(nums(0), nums(0, 1, 2, 3, 4), 1, 2, 3, 4, 5),
		table(nums(1, 1), nums(0), 1, 2),
		table(nums(2, 1), nums(0), 1, 2),
		table(nums(0), nums(1, 1), 1, 2),
		table(nums(0), nums(2, 1), 1, 2),
		table(nums(0, 5, 5, 9), nums(0), 1, 2, 3, 4),
		table(nums(0, 5, 9, 8), nums(0), 1, 2, 3, 4),
		table(nums(0), nums(0, 5, 9, 9), 1, 2, 3, 4),
		table(nums(0), nums(0, 5, 4, 9), 1, 2, 3, 4),
		table(nums(-1), nums(0), 1),
		table(nums(-1, 0), nums(0), 1, 2),
		table(nums(0), nums(-1), 1),
		table(nums(0), nums(-1, 0), 1, 2),
		table(nums(far+1), nums(0), 1),
		table(nums(0, far+1), nums(0), 1, 2),
		table(nums(0), nums(far+1), 1),
		table(nums(0), nums(0, far+1), 1, 2),
		table(nums(math.MinInt64), nums(0), 1),
		table(nums(0), nums(math.MaxInt64), 1),
		table(nums(0), nums(0)),
		table(nums(1), nums(0)),
		table(nums(0), nums(0), 1, 2),
		table(nums(0, 10), nums(0), 0),
		table(nums(0, 10), nums(0), 0, 5, 6),
		table(nums(0, 10), nums(0, 10), 1, 2, 3),
		table(nums(0, 10), nums(0, 10), 1, 2, 3, 4, 5),
		table(nums(0, 10), nums(0, 10, 20), 1, 2, 3, 4, 5),
		table(nums(0), nums(0), mostValue+1),
		table(nums(0), nums(0), -mostValue-1),
		table(nums(0), nums(0), math.MaxInt64),
		table(nums(0), nums(0), math.MinInt64),
		table(nums(0, 1), nums(0, 1), 1, 2, 3, mostValue+1),
		table(nums(0, 1), nums(0, 1), 1, 2, -mostValue-1, 3),
	}
}

func sameTable(a, b impl.Table) bool {
	return slices.Equal(a.Slews, b.Slews) && slices.Equal(a.Loads, b.Loads) && slices.Equal(a.Values, b.Values)
}

func isZeroTable(t impl.Table) bool {
	return sameTable(t, impl.Table{})
}

func TestTableLimits(t *testing.T) {
	if impl.MaxAxis != 4 || impl.MaxAxisValue != 100000 || impl.MaxTableValue != 1000000 {
		t.Error("limits", impl.MaxAxis, impl.MaxAxisValue, impl.MaxTableValue)
	}
}

func TestIsTableDecides(t *testing.T) {
	for _, good := range sampleTables() {
		if !impl.IsTable(good) {
			t.Errorf("%v is not accepted", good)
		}
	}
	for _, bad := range invalidTables() {
		if impl.IsTable(bad) {
			t.Errorf("%v is accepted", bad)
		}
	}
}

// For every shape just one number of values is right, and axes may have up to MaxAxis elements.
func TestIsTableCountsTheValues(t *testing.T) {
	for slews := 0; slews <= impl.MaxAxis+1; slews++ {
		for loads := 0; loads <= impl.MaxAxis+1; loads++ {
			for values := 0; values <= 40; values++ {
				shape := table(make([]int64, slews), make([]int64, loads), make([]int64, values)...)
				for i := range shape.Slews {
					shape.Slews[i] = int64(i)
				}
				for i := range shape.Loads {
					shape.Loads[i] = int64(3 * i)
				}
				want := slews >= 1 && slews <= 4 && loads >= 1 && loads <= 4 && values == slews*loads
				if impl.IsTable(shape) != want {
					t.Errorf("IsTable of %d slews, %d loads and %d values is not %v", slews, loads, values, want)
				}
			}
		}
	}
}

func TestConstantTableValues(t *testing.T) {
	for _, v := range []int64{0, 1, -1, 7, mostValue, -mostValue, mostValue - 1, 1 - mostValue} {
		c, code := impl.ConstantTable(v)
		if code != impl.ErrNone || !sameTable(c, table(nums(0), nums(0), v)) {
			t.Errorf("ConstantTable(%d) = %v, %d", v, c, code)
		}
	}
	for _, v := range []int64{mostValue + 1, -mostValue - 1, math.MaxInt64, math.MinInt64} {
		if c, code := impl.ConstantTable(v); code != impl.ErrRange || !isZeroTable(c) {
			t.Errorf("ConstantTable(%d) = %v, %d; want no table and ErrRange", v, c, code)
		}
	}
}

func TestTableBoundsValues(t *testing.T) {
	cases := []struct {
		t    impl.Table
		want impl.Span
	}{
		{table(nums(0), nums(0), 0), impl.Span{}},
		{table(nums(5), nums(3), -7), span(-7, -7)},
		{table(nums(0, 4), nums(0, 2), 0, 8, 4, 20), span(0, 20)},
		{table(nums(0, 4), nums(0, 2), 9, 8, 4, 6), span(4, 9)},
		{table(nums(0, 4), nums(0, 2), -5, -8, -4, -6), span(-8, -4)},
		{table(nums(0, 1, 2), nums(0), 1, -3, 2), span(-3, 2)},
		{table(nums(0, 1), nums(0), mostValue, -mostValue), span(-mostValue, mostValue)},
	}
	for _, c := range cases {
		if bounds, code := impl.TableBounds(c.t); bounds != c.want || code != impl.ErrNone {
			t.Errorf("TableBounds(%v) = %v, %d; want %v", c.t, bounds, code, c.want)
		}
	}
	for _, bad := range invalidTables() {
		if bounds, code := impl.TableBounds(bad); bounds != (impl.Span{}) || code != impl.ErrInvalid {
			t.Errorf("TableBounds(%v) = %v, %d; want ErrInvalid", bad, bounds, code)
		}
	}
}

// The bounds enclose all values, and both of them are values.
func TestTableBoundsAreTight(t *testing.T) {
	for _, sample := range sampleTables() {
		bounds, code := impl.TableBounds(sample)
		if code != impl.ErrNone || bounds != span(slices.Min(sample.Values), slices.Max(sample.Values)) {
			t.Errorf("TableBounds(%v) = %v, %d", sample, bounds, code)
		}
	}
}

func TestScaleTableValues(t *testing.T) {
	cases := []struct {
		thousandths, v int64
		early, late    int64
	}{
		{1000, 15, 15, 15},
		{1100, 15, 16, 17},
		{1100, -15, -17, -16},
		{0, 15, 0, 0},
		{0, -mostValue, 0, 0},
		{1, 1, 0, 1},
		{1, -1, -1, 0},
		{999, 1000, 999, 999},
		{10000, 7, 70, 70},
		{10000, -7, -70, -70},
		{10000, mostValue / 10, mostValue, mostValue},
		{10000, -mostValue / 10, -mostValue, -mostValue},
		{1000, mostValue, mostValue, mostValue},
		{1000, -mostValue, -mostValue, -mostValue},
		{999, mostValue, 999000, 999000},
		{1, mostValue, 1000, 1000},
	}
	for _, c := range cases {
		whole := table(nums(2, 9), nums(4), c.v, 1)
		for mode, want := range []int64{c.early, c.late} {
			scaled, code := impl.ScaleTable(whole, c.thousandths, int64(mode))
			if code != impl.ErrNone || len(scaled.Values) != 2 || scaled.Values[0] != want {
				t.Errorf("ScaleTable(%v, %d, %d) = %v, %d; want %d", whole, c.thousandths, mode, scaled, code, want)
			}
		}
	}
}

func TestScaleTableScalesEveryValue(t *testing.T) {
	for _, sample := range sampleTables() {
		for _, thousandths := range []int64{0, 1, 500, 999, 1000} {
			for _, mode := range []int64{impl.Early, impl.Late} {
				want := table(sample.Slews, sample.Loads)
				for _, v := range sample.Values {
					scaled, _ := impl.ScaleTime(v, thousandths, mode)
					want.Values = append(want.Values, scaled)
				}
				if scaled, code := impl.ScaleTable(sample, thousandths, mode); code != impl.ErrNone || !sameTable(scaled, want) {
					t.Errorf("ScaleTable(%v, %d, %d) = %v, %d; want %v", sample, thousandths, mode, scaled, code, want)
				}
			}
		}
	}
}

func checkNotScaled(t *testing.T, table impl.Table, thousandths, mode, want int64) {
	t.Helper()
	if scaled, code := impl.ScaleTable(table, thousandths, mode); code != want || !isZeroTable(scaled) {
		t.Errorf("ScaleTable(%v, %d, %d) = %v, %d; want no table and %d", table, thousandths, mode, scaled, code, want)
	}
}

// 999001 times 1.001 is 1000000.001: only the rounding toward 0 stays valid.
func TestScaleTableAtTheLimitOfValues(t *testing.T) {
	above := table(nums(0, 1), nums(0), 5, 999001)
	below := table(nums(0, 1), nums(0), -999001, 5)
	if scaled, code := impl.ScaleTable(above, 1001, impl.Early); code != impl.ErrNone || !slices.Equal(scaled.Values, nums(5, mostValue)) {
		t.Error("just valid", scaled, code)
	}
	if scaled, code := impl.ScaleTable(below, 1001, impl.Late); code != impl.ErrNone || !slices.Equal(scaled.Values, nums(-mostValue, 6)) {
		t.Error("just valid", scaled, code)
	}
	checkNotScaled(t, above, 1001, impl.Late, impl.ErrRange)
	checkNotScaled(t, below, 1001, impl.Early, impl.ErrRange)
	for _, mode := range []int64{impl.Early, impl.Late} {
		checkNotScaled(t, table(nums(0), nums(0), mostValue), 1001, mode, impl.ErrRange)
		checkNotScaled(t, table(nums(0), nums(0), -mostValue), 1001, mode, impl.ErrRange)
		checkNotScaled(t, table(nums(0), nums(0), mostValue/10+1), 10000, mode, impl.ErrRange)
		checkNotScaled(t, table(nums(0), nums(0), -mostValue/10-1), 10000, mode, impl.ErrRange)
		checkNotScaled(t, table(nums(0), nums(0), mostValue), 10000, mode, impl.ErrRange)
	}
}

func TestScaleTableRefuses(t *testing.T) {
	good := table(nums(0, 10), nums(0), 0, 5)
	for _, thousandths := range []int64{-1, 10001, math.MaxInt64, math.MinInt64, 1 << 32} {
		checkNotScaled(t, good, thousandths, impl.Early, impl.ErrRange)
		checkNotScaled(t, good, thousandths, impl.Late, impl.ErrRange)
	}
	for _, mode := range []int64{-1, 2, math.MaxInt64, math.MinInt64, 1 << 32} {
		checkNotScaled(t, good, 1000, mode, impl.ErrRange)
		checkNotScaled(t, table(nums(0), nums(0), 0), 0, mode, impl.ErrRange)
	}
}

// An invalid table is reported first, even if scaling it would give a valid one.
func TestScaleTableOfInvalidTables(t *testing.T) {
	for _, bad := range invalidTables() {
		checkNotScaled(t, bad, 1000, impl.Early, impl.ErrInvalid)
		checkNotScaled(t, bad, 0, impl.Late, impl.ErrInvalid)
		checkNotScaled(t, bad, -1, impl.Late, impl.ErrInvalid)
		checkNotScaled(t, bad, 10001, 2, impl.ErrInvalid)
		checkNotScaled(t, bad, 1000, -1, impl.ErrInvalid)
	}
}

// withSpare returns a copy of a list with a known number in the capacity behind it.
func withSpare(list []int64) []int64 {
	return append(slices.Clone(list), -77)[:len(list)]
}

func spareIsUnchanged(list []int64) bool {
	return list[:len(list)+1][len(list)] == -77
}

func TestTablesAreNotChanged(t *testing.T) {
	for _, list := range [][]impl.Table{sampleTables(), invalidTables()} {
		for _, before := range list {
			given := table(withSpare(before.Slews), withSpare(before.Loads), withSpare(before.Values)...)
			impl.IsTable(given)
			impl.TableBounds(given)
			impl.IsMonotone(given)
			impl.TableText(given)
			for _, mode := range []int64{impl.Early, impl.Late, 2} {
				impl.LookUp(given, 7, 7, mode)
				impl.LookUp(given, -1, math.MaxInt64, mode)
				impl.ScaleTable(given, 999, mode)
				impl.ScaleTable(given, 1001, mode)
				impl.ScaleTable(given, 10001, mode)
			}
			if !sameTable(given, before) || !spareIsUnchanged(given.Slews) || !spareIsUnchanged(given.Loads) || !spareIsUnchanged(given.Values) {
				t.Errorf("%v has become %v", before, given)
			}
		}
	}
}

// checkOwnMemory fills every list of a table, with its capacity, and looks whether the other lists
// and the given ones keep their numbers.
func checkOwnMemory(t *testing.T, name string, result impl.Table, given ...[]int64) {
	t.Helper()
	lists := append([][]int64{result.Slews, result.Loads, result.Values}, given...)
	for i := range 3 {
		var before [][]int64
		for _, list := range lists {
			before = append(before, slices.Clone(list))
		}
		full := lists[i][:cap(lists[i])]
		for k := range full {
			full[k] -= 1000003
		}
		for k, list := range lists {
			if k != i && !slices.Equal(list, before[k]) {
				t.Errorf("%s: the list %d shares memory with the list %d", name, i, k)
			}
		}
	}
}

func TestTablesHaveTheirOwnMemory(t *testing.T) {
	for _, given := range sampleTables() {
		memory := [][]int64{given.Slews, given.Loads, given.Values}
		for _, thousandths := range []int64{0, 500, 1000} {
			scaled, code := impl.ScaleTable(given, thousandths, impl.Late)
			if code != impl.ErrNone {
				t.Errorf("ScaleTable(%v, %d) fails with %d", given, thousandths, code)
			}
			checkOwnMemory(t, "ScaleTable", scaled, memory...)
		}
		read, ok := impl.ReadTable(impl.TableText(given))
		if !ok {
			t.Errorf("the text of %v is not read", given)
		}
		checkOwnMemory(t, "ReadTable", read, memory...)
	}
	first, _ := impl.ConstantTable(3)
	checkOwnMemory(t, "ConstantTable", first)
	if second, _ := impl.ConstantTable(3); !sameTable(second, table(nums(0), nums(0), 3)) {
		t.Error("a second constant table", second)
	}
}
