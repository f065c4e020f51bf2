package tests

import (
	"math"
	"testing"

	"loop.example/g00861/impl"
)

// Promise 4: the sense of an input tells how the value of its gate changes.

// inputsOf returns the values of n inputs for a row of a truth table.
func inputsOf(row, n int) []int64 {
	inputs := make([]int64, n)
	for p := range inputs {
		inputs[p] = int64(row >> p & 1)
	}
	return inputs
}

// truthOf returns the truth table of n inputs whose element i is bit i of a number.
func truthOf(bits, n int) []int64 {
	return inputsOf(bits, 1<<n)
}

// valuesOf returns the values of a gate with n inputs for all rows of its truth table.
func valuesOf(t *testing.T, c impl.Cell, n int) []int64 {
	t.Helper()
	values := make([]int64, 1<<n)
	for row := range values {
		v, code := impl.GateValue(c, inputsOf(row, n))
		if code != impl.ErrNone {
			t.Fatalf("GateValue(%v, row %d) fails with %d", c, row, code)
		}
		values[row] = v
	}
	return values
}

// senseByValues returns the sense that follows from the values of a gate for all values of its
// inputs.
func senseByValues(values []int64, input int) int64 {
	raises, lowers := false, false
	for row, high := range values {
		if row>>input&1 == 0 {
			continue
		}
		low := values[row-1<<input]
		raises, lowers = raises || low < high, lowers || low > high
	}
	switch {
	case raises && lowers:
		return impl.SenseBoth
	case raises:
		return impl.SensePos
	case lowers:
		return impl.SenseNeg
	}
	return 0
}

// All gates of one to four inputs.
func TestSenseTellsHowTheValueChanges(t *testing.T) {
	for n := 1; n <= 4; n++ {
		for bits := range 1 << (1 << n) {
			c := gate(truthOf(bits, n))
			values := valuesOf(t, c, n)
			for input := range n {
				if got, want := impl.SenseOf(c, int64(input)), senseByValues(values, input); got != want {
					t.Fatalf("Truth %v: SenseOf(%d) = %d; want %d", c.Truth, input, got, want)
				}
			}
		}
	}
}

// Bit p of the index of an element is the value of the input p.
func TestGateValueReadsTheTruthTable(t *testing.T) {
	for n := 1; n <= 4; n++ {
		for high := range 1 << n {
			c := gate(truthOf(1<<high, n))
			for row, v := range valuesOf(t, c, n) {
				if (v == 1) != (row == high) {
					t.Errorf("%d inputs: only row %d is 1, but row %d is %d", n, high, row, v)
				}
			}
		}
	}
	for row, want := range nums(0, 0, 0, 1) {
		if v, code := impl.GateValue(and(), inputsOf(row, 2)); v != want || code != impl.ErrNone {
			t.Errorf("the row %d of and is %d, %d", row, v, code)
		}
	}
	first := gate(nums(0, 1, 0, 1))
	if v, code := impl.GateValue(first, nums(1, 0)); v != 1 || code != impl.ErrNone {
		t.Error("the first input alone", v, code)
	}
	if v, code := impl.GateValue(first, nums(0, 1)); v != 0 || code != impl.ErrNone {
		t.Error("the second input alone", v, code)
	}
}

func checkNoGateValue(t *testing.T, c impl.Cell, inputs []int64, want int64) {
	t.Helper()
	if v, code := impl.GateValue(c, inputs); v != 0 || code != want {
		t.Errorf("GateValue(%v, %v) = %d, %d; want 0 and %d", c, inputs, v, code, want)
	}
}

// wrongInputs are values that no gate with two inputs has.
func wrongInputs() [][]int64 {
	return [][]int64{
		nil, {}, {1}, {1, 1, 1}, {0, 0, 0, 0}, {2, 0}, {0, 2}, {-1, 0}, {0, -1}, {1, 1 << 32}, {1<<32 + 1, 0},
		{math.MinInt64, 1}, {1, math.MaxInt64}, {2, 0, 0}, make([]int64, 100),
	}
}

func TestErrorsOfGateValue(t *testing.T) {
	for _, inputs := range append(wrongInputs(), nums(0, 0, 0), nums(1, 0)) {
		for _, c := range invalidCells() {
			checkNoGateValue(t, c, inputs, impl.ErrInvalid)
		}
		for _, c := range []impl.Cell{risingFlop(), fallingFlop(), plainLatch(), fullLatch(8)} {
			checkNoGateValue(t, c, inputs, impl.ErrState)
		}
	}
	for _, inputs := range wrongInputs() {
		checkNoGateValue(t, and(), inputs, impl.ErrRange)
		checkNoGateValue(t, gate(nums(1, 1, 1, 1)), inputs, impl.ErrRange)
	}
	for n := 1; n <= 4; n++ {
		c := gate(make([]int64, 1<<n))
		for inputs := range 8 {
			if inputs != n {
				checkNoGateValue(t, c, make([]int64, inputs), impl.ErrRange)
			}
		}
		for p := range n {
			for _, v := range []int64{-1, 2} {
				inputs := make([]int64, n)
				inputs[p] = v
				checkNoGateValue(t, c, inputs, impl.ErrRange)
			}
		}
	}
}

func TestSensesOfKnownGates(t *testing.T) {
	cases := []struct {
		name   string
		truth  []int64
		senses []int64
	}{
		{"inverter", nums(1, 0), nums(impl.SenseNeg)},
		{"buffer", nums(0, 1), nums(impl.SensePos)},
		{"constant", nums(1, 1), nums(0)},
		{"and", nums(0, 0, 0, 1), nums(impl.SensePos, impl.SensePos)},
		{"nor", nums(1, 0, 0, 0), nums(impl.SenseNeg, impl.SenseNeg)},
		{"exclusive or", nums(0, 1, 1, 0), nums(impl.SenseBoth, impl.SenseBoth)},
		{"first and not second", nums(0, 1, 0, 0), nums(impl.SensePos, impl.SenseNeg)},
		{"second alone", nums(0, 0, 1, 1), nums(0, impl.SensePos)},
		// The third input chooses the second one instead of the first one.
		{"choice", nums(0, 1, 0, 1, 0, 0, 1, 1), nums(impl.SensePos, impl.SensePos, impl.SenseBoth)},
	}
	for _, c := range cases {
		for input, want := range c.senses {
			if got := impl.SenseOf(gate(c.truth), int64(input)); got != want {
				t.Errorf("%s: SenseOf(%d) = %d; want %d", c.name, input, got, want)
			}
		}
	}
	// The arcs do not matter.
	for _, sense := range nums(impl.SensePos, impl.SenseNeg, impl.SenseBoth) {
		c := inverter()
		if c.Arcs[0].Sense = sense; impl.SenseOf(c, 0) != impl.SenseNeg {
			t.Errorf("an arc with the sense %d changes SenseOf", sense)
		}
	}
}

func TestSenseOfNoInput(t *testing.T) {
	for n := 1; n <= 4; n++ {
		c := gate(make([]int64, 1<<n))
		for _, pin := range []int64{math.MinInt64, -1, int64(n), int64(n) + 1, 5, 63, 64, 1 << 32, math.MaxInt64} {
			if got := impl.SenseOf(c, pin); got != -1 {
				t.Errorf("%d inputs: SenseOf(%d) = %d", n, pin, got)
			}
		}
	}
	others := append(invalidCells(), risingFlop(), fallingFlop(), plainLatch(), fullLatch(8))
	for _, c := range others {
		for pin := int64(-1); pin <= impl.MaxPins; pin++ {
			if got := impl.SenseOf(c, pin); got != -1 {
				t.Errorf("SenseOf(%v, %d) = %d", c, pin, got)
			}
		}
	}
}

// All gates of one and two inputs, with each sense of an arc from each input or without the arc.
func TestIsConsistentDecides(t *testing.T) {
	for n := 1; n <= 2; n++ {
		for bits := range 1 << (1 << n) {
			for senses := range 1 << (2 * n) {
				c, want := gate(truthOf(bits, n)), true
				values := valuesOf(t, c, n)
				for input := range n {
					has := int64(senses >> (2 * input) & 3)
					if has != 0 {
						c.Arcs = append(c.Arcs, arc(impl.ArcComb, int64(input), int64(n), has))
					}
					needs := senseByValues(values, input)
					want = want && (needs == 0 || has == needs || has == impl.SenseBoth)
				}
				if impl.IsConsistent(c) != want {
					t.Errorf("Truth %v, senses %04b: IsConsistent is not %v", c.Truth, senses, want)
				}
			}
		}
	}
}

func TestIsConsistentOfOtherCells(t *testing.T) {
	for _, c := range []impl.Cell{risingFlop(), fallingFlop(), plainLatch(), fullLatch(2), fullLatch(8), wideTables(), and(), xor()} {
		if !impl.IsConsistent(c) {
			t.Errorf("%s is not consistent", c.Name)
		}
	}
	for _, c := range invalidCells() {
		if impl.IsConsistent(c) {
			t.Errorf("%v is consistent", c)
		}
	}
	// Of three and four inputs each one is looked at.
	for n := 3; n <= 4; n++ {
		for missing := range n {
			c := gate(make([]int64, 1<<n))
			c.Truth[len(c.Truth)-1] = 1
			for input := range n {
				if input != missing {
					c.Arcs = append(c.Arcs, arc(impl.ArcComb, int64(input), int64(n), impl.SensePos))
				}
			}
			if impl.IsConsistent(c) {
				t.Errorf("%d inputs: the arc from %d is not missed", n, missing)
			}
			c.Arcs = append(c.Arcs, arc(impl.ArcComb, int64(missing), int64(n), impl.SensePos))
			if !impl.IsConsistent(c) {
				t.Errorf("%d inputs, all with arcs: not consistent", n)
			}
		}
	}
}
