package tests

import (
	"math"
	"testing"

	"loop.example/g00861/impl"
)

// Corners.

func checkCorner(t *testing.T, c impl.Corner, want bool) {
	t.Helper()
	if impl.IsCorner(c) != want {
		t.Errorf("IsCorner(%+v) is not %v", c, want)
	}
}

func TestCornersOfTheDocument(t *testing.T) {
	checkCorner(t, impl.Corner{Name: "slow", CellEarly: 1000, CellLate: 1200, WireEarly: 900, WireLate: 1100}, true)
	for _, c := range sampleCorners() {
		checkCorner(t, c, true)
	}
	for _, c := range invalidCorners() {
		checkCorner(t, c, false)
	}
}

// Each factor alone, where the other one of its kind leaves it all the room there is.
func TestLimitsOfFactors(t *testing.T) {
	for i := range 4 {
		for _, v := range nums(100, 101, 999, 1000, 1001, 4999, 5000) {
			c := corner(100, 5000, 100, 5000)
			*factorsOf(&c)[i] = v
			checkCorner(t, c, true)
		}
		for _, v := range nums(99, 98, 1, 0, -1, -100, -1000, 5001, 5002, 1000000, 1<<32+1000, -1<<32+1000, math.MinInt64, math.MinInt64+1000, math.MaxInt64) {
			c := corner(100, 5000, 100, 5000)
			*factorsOf(&c)[i] = v
			checkCorner(t, c, false)
		}
	}
	checkCorner(t, corner(100, 100, 100, 100), true)
	checkCorner(t, corner(5000, 5000, 5000, 5000), true)
	checkCorner(t, corner(99, 99, 1000, 1000), false)
	checkCorner(t, corner(1000, 1000, 99, 99), false)
	checkCorner(t, corner(5001, 5001, 1000, 1000), false)
	checkCorner(t, corner(1000, 1000, 5001, 5001), false)
}

// The early factor is at most the late one of its kind, whatever those of the other kind are.
func TestOrderOfFactors(t *testing.T) {
	for _, v := range nums(101, 1000, 1001, 4999) {
		for _, other := range nums(100, 1000, 5000) {
			checkCorner(t, corner(v, v, other, other), true)
			checkCorner(t, corner(v-1, v, other, other), true)
			checkCorner(t, corner(v+1, v, other, other), false)
			checkCorner(t, corner(other, other, v, v), true)
			checkCorner(t, corner(other, other, v-1, v), true)
			checkCorner(t, corner(other, other, v+1, v), false)
		}
	}
	checkCorner(t, corner(5000, 100, 100, 5000), false)
	checkCorner(t, corner(100, 5000, 5000, 100), false)
}

func TestNamesOfCorners(t *testing.T) {
	for _, name := range goodNames() {
		c := spreadCorner()
		c.Name = name
		checkCorner(t, c, true)
		want := plainCorner()
		want.Name = name
		if got, ok := impl.PlainCorner(name); !ok || got != want {
			t.Errorf("PlainCorner(%q) = %+v, %v; want %+v", name, got, ok, want)
		}
		checkCorner(t, want, true)
	}
	for _, name := range badNames() {
		c := spreadCorner()
		c.Name = name
		checkCorner(t, c, false)
		if got, ok := impl.PlainCorner(name); ok || got != (impl.Corner{}) {
			t.Errorf("PlainCorner(%q) = %+v, %v; want no corner", name, got, ok)
		}
	}
}
