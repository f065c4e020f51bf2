package tests

import (
	"math"
	"math/big"
	"slices"
	"testing"

	"loop.example/g00861/impl"
)

// Promise 3: a value that is looked up lies within the bounds of its table, and a monotone table
// does not decrease.

func checkLookUp(t *testing.T, table impl.Table, slew, load, early, late int64) {
	t.Helper()
	for mode, want := range []int64{early, late} {
		if v, code := impl.LookUp(table, slew, load, int64(mode)); v != want || code != impl.ErrNone {
			t.Errorf("LookUp(%v, %d, %d, %d) = %d, %d; want %d", table, slew, load, mode, v, code, want)
		}
	}
}

// exactOnAxis returns the two elements of an axis around x and the part of the way from the first
// one to the second one.
func exactOnAxis(axis []int64, x int64) (int, int, *big.Rat) {
	last := len(axis) - 1
	switch {
	case x <= axis[0]:
		return 0, 0, new(big.Rat)
	case x >= axis[last]:
		return last, last, new(big.Rat)
	}
	i := 0
	for axis[i+1] < x {
		i++
	}
	return i, i + 1, big.NewRat(x-axis[i], axis[i+1]-axis[i])
}

func between(a, b, part *big.Rat) *big.Rat {
	way := new(big.Rat).Sub(b, a)
	return way.Add(a, way.Mul(way, part))
}

// exactValue interpolates along the loads and then along the slews, without any rounding.
func exactValue(t impl.Table, slew, load int64) *big.Rat {
	s0, s1, slewPart := exactOnAxis(t.Slews, slew)
	l0, l1, loadPart := exactOnAxis(t.Loads, load)
	value := func(s, l int) *big.Rat { return big.NewRat(t.Values[s*len(t.Loads)+l], 1) }
	low := between(value(s0, l0), value(s0, l1), loadPart)
	high := between(value(s1, l0), value(s1, l1), loadPart)
	return between(low, high, slewPart)
}

func floorAndCeiling(v *big.Rat) (int64, int64) {
	// Div of big.Int rounds toward minus infinity for a positive denominator.
	early := new(big.Int).Div(v.Num(), v.Denom()).Int64()
	if v.IsInt() {
		return early, early
	}
	return early, early + 1
}

// pointsOf returns, in order, points at, around and between the elements of an axis, and far from
// them.
func pointsOf(axis []int64) []int64 {
	points := []int64{math.MinInt64, math.MinInt64 + 1, -impl.MaxProduct, -1, 0, 1, impl.MaxAxisValue + 1, impl.MaxProduct, math.MaxInt64}
	for i, v := range axis {
		points = append(points, v-2, v-1, v, v+1, v+2)
		if i > 0 {
			way := v - axis[i-1]
			points = append(points, axis[i-1]+way/2, axis[i-1]+way/3, v-way/7)
		}
	}
	slices.Sort(points)
	return slices.Compact(points)
}

func TestLookUpAtElements(t *testing.T) {
	for _, sample := range sampleTables() {
		for i, slew := range sample.Slews {
			for j, load := range sample.Loads {
				v := sample.Values[i*len(sample.Loads)+j]
				checkLookUp(t, sample, slew, load, v, v)
			}
		}
	}
}

func TestLookUpBetweenElements(t *testing.T) {
	line := table(nums(0, 10), nums(0), 0, 5)
	checkLookUp(t, line, 3, 7, 1, 2)
	checkLookUp(t, line, 4, 0, 2, 2)
	checkLookUp(t, line, 9, 0, 4, 5)
	falling := table(nums(0), nums(0, 10), 0, -5)
	checkLookUp(t, falling, 7, 3, -2, -1)
	checkLookUp(t, falling, 0, 4, -2, -2)
	square := table(nums(0, 4), nums(0, 2), 0, 8, 4, 20)
	checkLookUp(t, square, 1, 1, 6, 6)
	checkLookUp(t, square, 2, 1, 8, 8)
	checkLookUp(t, square, 0, 1, 4, 4)
	checkLookUp(t, square, 4, 1, 12, 12)
	checkLookUp(t, square, 3, 0, 3, 3)
	checkLookUp(t, square, 3, 2, 17, 17)
	steps := table(nums(3, 7, 20, 21), nums(5), 0, 100, 10, 30)
	checkLookUp(t, steps, 4, 5, 25, 25)
	checkLookUp(t, steps, 8, 5, 93, 94)
	checkLookUp(t, steps, 19, 5, 16, 17)
}

// In the first case, rounding along one axis first would give 0 for Early (the mean of 0 and 1) and
// 2 for Late (the mean of 1 and 2).
func TestLookUpRoundsOnce(t *testing.T) {
	checkLookUp(t, table(nums(0, 2), nums(0, 2), 0, 1, 1, 2), 1, 1, 1, 1)
	checkLookUp(t, table(nums(0, 2), nums(0, 2), 0, -1, -1, -2), 1, 1, -1, -1)
	checkLookUp(t, table(nums(0, 2), nums(0, 2), 0, 1, 3, 4), 1, 1, 2, 2)
	checkLookUp(t, table(nums(0, 3), nums(0, 3), 0, 1, 2, 3), 1, 1, 1, 1)
	checkLookUp(t, table(nums(0, 3), nums(0, 3), 0, -1, -2, -3), 2, 2, -2, -2)
	checkLookUp(t, table(nums(0, 2), nums(0, 2), 0, 0, 0, 1), 1, 1, 0, 1)
	checkLookUp(t, table(nums(0, 2), nums(0, 2), 0, 0, 0, -1), 1, 1, -1, 0)
}

func TestLookUpOutsideTheAxes(t *testing.T) {
	square := table(nums(3, 7), nums(10, 20), 1, 2, 3, 4)
	for _, low := range []int64{2, 0, -1, -impl.MaxTime, math.MinInt64} {
		checkLookUp(t, square, low, low, 1, 1)
		checkLookUp(t, square, low, 20, 2, 2)
		checkLookUp(t, square, 7, low, 3, 3)
		checkLookUp(t, square, low, 15, 1, 2)
		checkLookUp(t, square, 5, low, 2, 2)
	}
	for _, high := range []int64{21, impl.MaxAxisValue, impl.MaxAxisValue + 1, impl.MaxTime, math.MaxInt64} {
		checkLookUp(t, square, high, high, 4, 4)
		checkLookUp(t, square, high, 10, 3, 3)
		checkLookUp(t, square, 3, high, 2, 2)
		checkLookUp(t, square, high, 15, 3, 4)
		checkLookUp(t, square, 5, high, 3, 3)
	}
	checkLookUp(t, square, math.MinInt64, math.MaxInt64, 2, 2)
	checkLookUp(t, square, math.MaxInt64, math.MinInt64, 3, 3)
}

func TestLookUpWithOneElement(t *testing.T) {
	one := table(nums(50), nums(60), -9)
	for _, x := range []int64{math.MinInt64, -1, 0, 49, 50, 51, 60, 61, math.MaxInt64} {
		checkLookUp(t, one, x, 0, -9, -9)
		checkLookUp(t, one, 0, x, -9, -9)
		checkLookUp(t, one, x, x, -9, -9)
		checkLookUp(t, table(nums(7), nums(0, 10), 1, 2), x, 5, 1, 2)
		checkLookUp(t, table(nums(0, 10), nums(7), 1, 2), 5, x, 1, 2)
	}
}

// Here the weights and the values are as great as they can be.
func TestLookUpWithTheGreatestNumbers(t *testing.T) {
	const far, half, most = impl.MaxAxisValue, impl.MaxAxisValue / 2, mostValue
	axis := nums(0, far)
	for _, slew := range []int64{0, 1, half, far - 1, far} {
		for _, load := range []int64{0, 1, half, far - 1, far} {
			checkLookUp(t, table(axis, axis, most, most, most, most), slew, load, most, most)
			checkLookUp(t, table(axis, axis, -most, -most, -most, -most), slew, load, -most, -most)
		}
	}
	crossed := table(axis, axis, -most, most, most, -most)
	checkLookUp(t, crossed, half, half, 0, 0)
	checkLookUp(t, crossed, 1, 1, -999961, -999960)
	checkLookUp(t, crossed, far-1, 1, 999960, 999961)
	checkLookUp(t, table(axis, axis, most-1, most, most, most), far-1, far-1, most-1, most)
	checkLookUp(t, table(axis, axis, 1-most, -most, -most, -most), far-1, far-1, -most, 1-most)
	checkLookUp(t, table(axis, axis, 0, 0, 0, 1), 1, 1, 0, 1)
	checkLookUp(t, table(axis, axis, 0, 0, 0, -1), 1, 1, -1, 0)
}

// The early value is the greatest integer up to the exact one, the late value the smallest from
// it; both lie within the bounds of the table.
func TestLookUpEnclosesTheExactValue(t *testing.T) {
	for _, sample := range sampleTables() {
		bounds, _ := impl.TableBounds(sample)
		for _, slew := range pointsOf(sample.Slews) {
			for _, load := range pointsOf(sample.Loads) {
				early, late := floorAndCeiling(exactValue(sample, slew, load))
				checkLookUp(t, sample, slew, load, early, late)
				if early > late || early < bounds.Early || late > bounds.Late {
					t.Errorf("%d..%d of %v at %d, %d is not within %v", early, late, sample, slew, load, bounds)
				}
			}
		}
	}
}

func TestLookUpAtEveryPoint(t *testing.T) {
	small := table(nums(0, 3, 4, 11), nums(1, 2, 8), -5, 7, 0, 12, -13, 1, 2, 3, -4, 100, -99, 50)
	bounds, _ := impl.TableBounds(small)
	for slew := int64(-2); slew <= 14; slew++ {
		for load := int64(-2); load <= 11; load++ {
			early, late := floorAndCeiling(exactValue(small, slew, load))
			checkLookUp(t, small, slew, load, early, late)
			if early < bounds.Early || late > bounds.Late {
				t.Errorf("%d..%d at %d, %d is not within %v", early, late, slew, load, bounds)
			}
		}
	}
}

func checkNoValue(t *testing.T, table impl.Table, slew, load, mode, want int64) {
	t.Helper()
	if v, code := impl.LookUp(table, slew, load, mode); v != 0 || code != want {
		t.Errorf("LookUp(%v, %d, %d, %d) = %d, %d; want 0 and %d", table, slew, load, mode, v, code, want)
	}
}

func TestLookUpRefuses(t *testing.T) {
	for _, mode := range []int64{-1, 2, math.MaxInt64, math.MinInt64, 1 << 32} {
		checkNoValue(t, table(nums(0, 10), nums(0), 7, 7), 3, 0, mode, impl.ErrRange)
		checkNoValue(t, table(nums(0), nums(0), 7), 0, 0, mode, impl.ErrRange)
	}
	for _, bad := range invalidTables() {
		for _, mode := range []int64{impl.Early, impl.Late, -1, 2} {
			checkNoValue(t, bad, 0, 0, mode, impl.ErrInvalid)
			checkNoValue(t, bad, math.MinInt64, math.MaxInt64, mode, impl.ErrInvalid)
		}
	}
}

func monotoneTables() []impl.Table {
	const far = impl.MaxAxisValue
	return []impl.Table{
		table(nums(0), nums(0), -3),
		table(nums(0, 10), nums(0), 0, 5),
		table(nums(0, 10), nums(0), 5, 5),
		table(nums(0), nums(0, 10), -5, -4),
		table(nums(0, 4), nums(0, 2), 0, 8, 4, 20),
		table(nums(0, 4), nums(0, 2), 0, 8, 0, 8),
		table(nums(0, 4), nums(0, 2), 0, 0, 0, 1),
		table(nums(0, 4), nums(0, 2), -9, 1, 2, 2),
		table(nums(1, 4, 9), nums(2, 9), -mostValue, -1, 0, 0, 1, mostValue),
		table(nums(0, far), nums(0, far), -mostValue, mostValue, mostValue, mostValue),
		table(nums(0, 13, 14, 99), nums(7, 11, 50, 51), 0, 1, 1, 2, 1, 1, 2, 3, 1, 5, 5, 5, 7, 7, 8, 8),
		table(nums(0, 1, 50000, far), nums(3, 4, 70000, far),
			-mostValue, -9, -9, 0, -8, -8, -8, 0, -8, -7, 5, 999, -7, 0, 999999, mostValue),
	}
}

func TestIsMonotoneDecides(t *testing.T) {
	for _, rising := range monotoneTables() {
		if !impl.IsMonotone(rising) {
			t.Errorf("%v is not monotone", rising)
		}
	}
	falling := []impl.Table{
		table(nums(0, 10), nums(0), 5, 4),
		table(nums(0), nums(0, 10), 5, 4),
		table(nums(0, 4), nums(0, 2), 0, -1, 4, 20),
		table(nums(0, 4), nums(0, 2), 0, 8, 4, 7),
		table(nums(0, 4), nums(0, 2), 0, 8, -1, 20),
		table(nums(0, 4), nums(0, 2), 0, 8, 9, 8),
		table(nums(0, 1, 2, 3), nums(5), 1, 2, 4, 3),
		table(nums(5), nums(0, 1, 2, 3), 2, 1, 3, 4),
		table(nums(0, 1), nums(0, 1), mostValue, -mostValue, mostValue, -mostValue),
	}
	for _, f := range falling {
		if impl.IsMonotone(f) {
			t.Errorf("%v is monotone", f)
		}
	}
	for _, bad := range invalidTables() {
		if impl.IsMonotone(bad) {
			t.Errorf("the invalid table %v is monotone", bad)
		}
	}
}

// A table stops being monotone if just one value falls below a neighbor, wherever it is.
func TestIsMonotoneComparesAllNeighbors(t *testing.T) {
	flat := table(nums(0, 1, 2, 3), nums(0, 1, 2, 3), make([]int64, 16)...)
	for i := range flat.Values {
		flat.Values[i] = -1
		if got := impl.IsMonotone(flat); got != (i == 0) {
			t.Errorf("with the value %d lowered IsMonotone is %v", i, got)
		}
		flat.Values[i] = 1
		if got := impl.IsMonotone(flat); got != (i == 15) {
			t.Errorf("with the value %d raised IsMonotone is %v", i, got)
		}
		flat.Values[i] = 0
	}
}

// isMonotoneByPairs compares all pairs of values in a row and in a column.
func isMonotoneByPairs(t impl.Table) bool {
	width := len(t.Loads)
	for a, v := range t.Values {
		for b, w := range t.Values {
			sameSlew, sameLoad := a/width == b/width, a%width == b%width
			if a < b && (sameSlew || sameLoad) && w < v {
				return false
			}
		}
	}
	return true
}

func TestIsMonotoneOfAllSmallTables(t *testing.T) {
	shapes := []impl.Table{
		table(nums(0, 1, 2), nums(0, 1)),
		table(nums(0, 1), nums(0, 1, 2)),
	}
	for _, shape := range shapes {
		for code := range int64(729) {
			shape.Values = make([]int64, 6)
			for i := range shape.Values {
				shape.Values[i] = code%3 - 1
				code /= 3
			}
			if impl.IsMonotone(shape) != isMonotoneByPairs(shape) {
				t.Errorf("IsMonotone(%v) is %v", shape, impl.IsMonotone(shape))
			}
		}
	}
}

// checkRises looks a table up at the points in order and expects that no value is smaller than the
// one before it.
func checkRises(t *testing.T, rising impl.Table, mode int64, points [][2]int64) {
	t.Helper()
	before := int64(math.MinInt64)
	for _, p := range points {
		v, code := impl.LookUp(rising, p[0], p[1], mode)
		if v < before || code != impl.ErrNone {
			t.Errorf("LookUp(%v, %d, %d, %d) = %d, %d after %d", rising, p[0], p[1], mode, v, code, before)
		}
		before = v
	}
}

func TestMonotoneTablesDoNotDecrease(t *testing.T) {
	for _, rising := range monotoneTables() {
		slews, loads := pointsOf(rising.Slews), pointsOf(rising.Loads)
		for _, mode := range []int64{impl.Early, impl.Late} {
			for _, slew := range slews {
				var points [][2]int64
				for _, load := range loads {
					points = append(points, [2]int64{slew, load})
				}
				checkRises(t, rising, mode, points)
			}
			for _, load := range loads {
				var points [][2]int64
				for _, slew := range slews {
					points = append(points, [2]int64{slew, load})
				}
				checkRises(t, rising, mode, points)
			}
		}
	}
}
