package tests

import (
	"math"
	"testing"

	"loop.example/g00861/impl"
)

// Promise 1: early and late roundings enclose the exact value.

type roundCase struct {
	a, b        int64
	early, late int64
}

func checkRounding(t *testing.T, name string, round func(a, b, mode int64) (int64, int64), cases []roundCase) {
	t.Helper()
	for _, c := range cases {
		early, code := round(c.a, c.b, impl.Early)
		if early != c.early || code != impl.ErrNone {
			t.Errorf("%s(%d, %d, Early) = %d, %d; want %d", name, c.a, c.b, early, code, c.early)
		}
		late, code := round(c.a, c.b, impl.Late)
		if late != c.late || code != impl.ErrNone {
			t.Errorf("%s(%d, %d, Late) = %d, %d; want %d", name, c.a, c.b, late, code, c.late)
		}
	}
}

// checkRefused expects ErrRange and no value for every argument list.
func checkRefused(t *testing.T, name string, round func(a, b, mode int64) (int64, int64), cases [][3]int64) {
	t.Helper()
	for _, c := range cases {
		v, code := round(c[0], c[1], c[2])
		if v != 0 || code != impl.ErrRange {
			t.Errorf("%s%v = %d, %d; want 0 and ErrRange", name, c, v, code)
		}
	}
}

func TestErrorCodes(t *testing.T) {
	codes := []int64{impl.ErrNone, impl.ErrInvalid, impl.ErrRange, impl.ErrLimit, impl.ErrNotFound, impl.ErrState, impl.ErrSyntax, impl.ErrLoop}
	for want, code := range codes {
		if code != int64(want) {
			t.Errorf("the error code %d has the value %d", want, code)
		}
	}
	if impl.Early != 0 || impl.Late != 1 {
		t.Error("modes", impl.Early, impl.Late)
	}
	if impl.MaxTime != 1000000000 || impl.MaxProduct != 1000000000000000 {
		t.Error("limits", impl.MaxTime, impl.MaxProduct)
	}
}

func TestRoundDivValues(t *testing.T) {
	const most = impl.MaxProduct
	checkRounding(t, "RoundDiv", impl.RoundDiv, []roundCase{
		{-8, 2, -4, -4},
		{-7, 2, -4, -3},
		{-2, 2, -1, -1},
		{-1, 2, -1, 0},
		{0, 1, 0, 0},
		{0, 2, 0, 0},
		{0, most, 0, 0},
		{1, 2, 0, 1},
		{2, 2, 1, 1},
		{7, 2, 3, 4},
		{8, 2, 4, 4},
		{10, 3, 3, 4},
		{-10, 3, -4, -3},
		{most, 1, most, most},
		{-most, 1, -most, -most},
		{most, most, 1, 1},
		{-most, most, -1, -1},
		{1, most, 0, 1},
		{-1, most, -1, 0},
		{most - 1, most, 0, 1},
		{1 - most, most, -1, 0},
		{most, most - 1, 1, 2},
		{-most, most - 1, -2, -1},
		{most, 7, 142857142857142, 142857142857143},
		{-most, 7, -142857142857143, -142857142857142},
	})
}

func TestRoundDivEnclosesTheQuotient(t *testing.T) {
	for a := int64(-60); a <= 60; a++ {
		for b := int64(1); b <= 25; b++ {
			early, _ := impl.RoundDiv(a, b, impl.Early)
			late, _ := impl.RoundDiv(a, b, impl.Late)
			if early*b > a || (early+1)*b <= a {
				t.Errorf("%d is not the greatest integer up to %d/%d", early, a, b)
			}
			if late*b < a || (late-1)*b >= a {
				t.Errorf("%d is not the smallest integer from %d/%d", late, a, b)
			}
		}
	}
}

func TestRoundDivRefuses(t *testing.T) {
	const most = impl.MaxProduct
	checkRefused(t, "RoundDiv", impl.RoundDiv, [][3]int64{
		{most + 1, 1, impl.Early},
		{most + 1, 1, impl.Late},
		{-most - 1, 1, impl.Early},
		{-most - 1, 1, impl.Late},
		{math.MaxInt64, 1, impl.Early},
		{math.MinInt64, 1, impl.Late},
		{7, 0, impl.Early},
		{0, 0, impl.Late},
		{7, -1, impl.Early},
		{math.MinInt64, -1, impl.Early},
		{7, most + 1, impl.Early},
		{7, math.MaxInt64, impl.Late},
		{7, math.MinInt64, impl.Late},
		{7, 2, -1},
		{7, 2, 2},
		{7, 2, math.MaxInt64},
		{7, 2, math.MinInt64},
		{7, 2, 1 << 32},
		{8, 2, 2},
		{0, 1, -1},
	})
}

func TestScaleTimeValues(t *testing.T) {
	const most = impl.MaxTime
	checkRounding(t, "ScaleTime", impl.ScaleTime, []roundCase{
		{15, 1100, 16, 17},
		{-15, 1100, -17, -16},
		{10, 1100, 11, 11},
		{-10, 1100, -11, -11},
		{1, 1, 0, 1},
		{-1, 1, -1, 0},
		{1, 999, 0, 1},
		{-1, 999, -1, 0},
		{0, 0, 0, 0},
		{0, 10000, 0, 0},
		{5, 0, 0, 0},
		{-5, 0, 0, 0},
		{5, 1000, 5, 5},
		{5, 10000, 50, 50},
		{-5, 10000, -50, -50},
		{most, 0, 0, 0},
		{most, 1, 1000000, 1000000},
		{most, 10000, 10 * most, 10 * most},
		{-most, 10000, -10 * most, -10 * most},
		{most - 1, 9999, 9998999990, 9998999991},
		{1 - most, 9999, -9998999991, -9998999990},
	})
}

func TestScaleTimeEnclosesTheProduct(t *testing.T) {
	for time := int64(-40); time <= 40; time++ {
		for thousandths := int64(0); thousandths <= 10000; thousandths += 37 {
			early, _ := impl.ScaleTime(time, thousandths, impl.Early)
			late, _ := impl.ScaleTime(time, thousandths, impl.Late)
			exact := time * thousandths
			if early*1000 > exact || (early+1)*1000 <= exact || late*1000 < exact || (late-1)*1000 >= exact {
				t.Errorf("ScaleTime(%d, %d) gives %d and %d", time, thousandths, early, late)
			}
		}
	}
}

func TestScaleTimeRefuses(t *testing.T) {
	const most = impl.MaxTime
	checkRefused(t, "ScaleTime", impl.ScaleTime, [][3]int64{
		{most + 1, 1000, impl.Early},
		{most + 1, 0, impl.Late},
		{-most - 1, 1000, impl.Early},
		{-most - 1, 0, impl.Late},
		{math.MaxInt64, 10000, impl.Late},
		{math.MinInt64, 10000, impl.Early},
		{15, -1, impl.Early},
		{15, 10001, impl.Late},
		{15, math.MaxInt64, impl.Late},
		{15, math.MinInt64, impl.Early},
		{15, 1100, -1},
		{15, 1100, 2},
		{15, 1100, math.MaxInt64},
		{15, 1100, math.MinInt64},
		{15, 1100, 1 << 32},
		{15, 1000, 2},
	})
}
