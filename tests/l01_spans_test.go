package tests

import (
	"math"
	"slices"
	"testing"

	"loop.example/g00861/impl"
)

// Promise 1: the hull of spans contains them. And the validity, sums and overlaps of spans.

const mostTime = impl.MaxTime

func span(early, late int64) impl.Span {
	return impl.Span{Early: early, Late: late}
}

func validSpans() []impl.Span {
	return []impl.Span{
		{},
		span(3, 3),
		span(3, 4),
		span(-4, -3),
		span(-3, 3),
		span(mostTime, mostTime),
		span(-mostTime, -mostTime),
		span(-mostTime, mostTime),
		span(mostTime-1, mostTime),
	}
}

func invalidSpans() []impl.Span {
	return []impl.Span{
		span(4, 3),
		span(1, 0),
		span(-3, -4),
		span(0, mostTime+1),
		span(mostTime+1, mostTime+1),
		span(-mostTime-1, 0),
		span(-mostTime-1, -mostTime-1),
		span(mostTime, -mostTime),
		span(math.MinInt64, math.MaxInt64),
		span(math.MinInt64, math.MinInt64),
		span(math.MaxInt64, math.MaxInt64),
		span(0, math.MaxInt64),
		span(math.MinInt64, 0),
	}
}

func TestIsSpanDecides(t *testing.T) {
	for _, s := range validSpans() {
		if !impl.IsSpan(s) {
			t.Errorf("%v is not accepted", s)
		}
	}
	for _, s := range invalidSpans() {
		if impl.IsSpan(s) {
			t.Errorf("%v is accepted", s)
		}
	}
}

func TestAddSpansValues(t *testing.T) {
	cases := []struct{ a, b, sum impl.Span }{
		{span(1, 2), span(10, 20), span(11, 22)},
		{impl.Span{}, impl.Span{}, impl.Span{}},
		{span(-5, -2), span(3, 3), span(-2, 1)},
		{span(-5, 2), span(-7, 1), span(-12, 3)},
		{span(0, mostTime-1), span(0, 1), span(0, mostTime)},
		{span(1-mostTime, 0), span(-1, 0), span(-mostTime, 0)},
		{span(-mostTime, 0), span(0, mostTime), span(-mostTime, mostTime)},
		{span(mostTime, mostTime), span(-mostTime, -mostTime), impl.Span{}},
	}
	for _, c := range cases {
		if sum, code := impl.AddSpans(c.a, c.b); sum != c.sum || code != impl.ErrNone {
			t.Errorf("AddSpans(%v, %v) = %v, %d; want %v", c.a, c.b, sum, code, c.sum)
		}
		if sum, code := impl.AddSpans(c.b, c.a); sum != c.sum || code != impl.ErrNone {
			t.Errorf("AddSpans(%v, %v) = %v, %d; want %v", c.b, c.a, sum, code, c.sum)
		}
	}
}

func checkNoSum(t *testing.T, a, b impl.Span, want int64) {
	t.Helper()
	if sum, code := impl.AddSpans(a, b); sum != (impl.Span{}) || code != want {
		t.Errorf("AddSpans(%v, %v) = %v, %d; want no span and %d", a, b, sum, code, want)
	}
}

func TestAddSpansBeyondTheLimits(t *testing.T) {
	cases := [][2]impl.Span{
		{span(0, mostTime), span(0, 1)},
		{span(1, mostTime), span(1, 1)},
		{span(-mostTime, 0), span(-1, 0)},
		{span(-mostTime, 5), span(-1, -1)},
		{span(mostTime, mostTime), span(mostTime, mostTime)},
		{span(-mostTime, -mostTime), span(-mostTime, -mostTime)},
		{span(-mostTime, mostTime), span(-mostTime, mostTime)},
	}
	for _, c := range cases {
		checkNoSum(t, c[0], c[1], impl.ErrRange)
		checkNoSum(t, c[1], c[0], impl.ErrRange)
	}
}

// Some of these sums would be valid spans, and some would be too great: the arguments are checked
// first.
func TestAddSpansOfInvalidSpans(t *testing.T) {
	for _, bad := range invalidSpans() {
		for _, good := range validSpans() {
			checkNoSum(t, bad, good, impl.ErrInvalid)
			checkNoSum(t, good, bad, impl.ErrInvalid)
		}
		checkNoSum(t, bad, bad, impl.ErrInvalid)
	}
	checkNoSum(t, span(0, mostTime+1), span(-1, -1), impl.ErrInvalid)
	checkNoSum(t, span(5, 4), span(0, 9), impl.ErrInvalid)
}

func TestHullOfValues(t *testing.T) {
	cases := []struct {
		list []impl.Span
		hull impl.Span
	}{
		{[]impl.Span{span(1, 2), span(5, 6)}, span(1, 6)},
		{[]impl.Span{span(5, 6), span(1, 2)}, span(1, 6)},
		{[]impl.Span{span(3, 9)}, span(3, 9)},
		{[]impl.Span{span(-9, -3)}, span(-9, -3)},
		{[]impl.Span{{}}, impl.Span{}},
		{[]impl.Span{span(1, 9), span(4, 5)}, span(1, 9)},
		{[]impl.Span{span(4, 5), span(1, 9), span(2, 3)}, span(1, 9)},
		{[]impl.Span{span(-2, -1), span(-6, -5)}, span(-6, -1)},
		{[]impl.Span{span(7, 7), span(7, 7)}, span(7, 7)},
		{[]impl.Span{span(mostTime, mostTime), span(0, 0), span(-mostTime, -mostTime)}, span(-mostTime, mostTime)},
	}
	for _, c := range cases {
		if hull, code := impl.HullOf(c.list); hull != c.hull || code != impl.ErrNone {
			t.Errorf("HullOf(%v) = %v, %d; want %v", c.list, hull, code, c.hull)
		}
	}
}

// The hull contains every span of its list, and both of its ends are ends of such spans.
func TestHullOfIsTheSmallestThatContainsAll(t *testing.T) {
	var spans []impl.Span
	for early := int64(-3); early <= 3; early++ {
		for late := early; late <= 3; late++ {
			spans = append(spans, span(early, late))
		}
	}
	for _, a := range spans {
		for _, b := range spans {
			for _, c := range spans {
				hull, code := impl.HullOf([]impl.Span{a, b, c})
				early := slices.Min([]int64{a.Early, b.Early, c.Early})
				late := slices.Max([]int64{a.Late, b.Late, c.Late})
				if code != impl.ErrNone || hull != (span(early, late)) {
					t.Fatalf("HullOf(%v, %v, %v) = %v, %d", a, b, c, hull, code)
				}
			}
		}
	}
}

func TestHullOfNothing(t *testing.T) {
	for _, list := range [][]impl.Span{nil, {}} {
		if hull, code := impl.HullOf(list); hull != (impl.Span{}) || code != impl.ErrNotFound {
			t.Errorf("HullOf of no spans = %v, %d", hull, code)
		}
	}
}

func TestHullOfInvalidSpans(t *testing.T) {
	good := span(1, 2)
	for _, bad := range invalidSpans() {
		lists := [][]impl.Span{{bad}, {bad, good}, {good, bad}, {good, bad, good}, {bad, bad}}
		for _, list := range lists {
			if hull, code := impl.HullOf(list); hull != (impl.Span{}) || code != impl.ErrInvalid {
				t.Errorf("HullOf(%v) = %v, %d; want ErrInvalid", list, hull, code)
			}
		}
	}
}

func TestHullOfLeavesItsArgument(t *testing.T) {
	memory := []impl.Span{span(5, 6), span(1, 2), span(-9, 9)}
	before := slices.Clone(memory)
	hull, code := impl.HullOf(memory[:2])
	if hull != (span(1, 6)) || code != impl.ErrNone || !slices.Equal(memory, before) {
		t.Error("HullOf", hull, code, memory)
	}
}

func TestSpansOverlapDecides(t *testing.T) {
	cases := []struct {
		a, b    impl.Span
		overlap bool
	}{
		{span(1, 2), span(2, 3), true},
		{span(1, 2), span(3, 4), false},
		{span(1, 9), span(3, 4), true},
		{span(1, 9), span(1, 9), true},
		{span(1, 5), span(3, 9), true},
		{span(1, 5), span(6, 9), false},
		{span(-5, -1), span(-1, -1), true},
		{span(-5, -2), span(-1, 7), false},
		{impl.Span{}, impl.Span{}, true},
		{span(0, 0), span(1, 1), false},
		{span(-mostTime, mostTime), span(mostTime, mostTime), true},
		{span(-mostTime, -mostTime), span(-mostTime, mostTime), true},
		{span(-mostTime, mostTime-1), span(mostTime, mostTime), false},
	}
	for _, c := range cases {
		if impl.SpansOverlap(c.a, c.b) != c.overlap || impl.SpansOverlap(c.b, c.a) != c.overlap {
			t.Errorf("SpansOverlap of %v and %v is not %v", c.a, c.b, c.overlap)
		}
	}
}

func TestSpansOverlapOfInvalidSpans(t *testing.T) {
	all := span(-mostTime, mostTime)
	for _, bad := range invalidSpans() {
		if impl.SpansOverlap(bad, all) || impl.SpansOverlap(all, bad) || impl.SpansOverlap(bad, bad) {
			t.Errorf("the invalid span %v overlaps", bad)
		}
	}
}
