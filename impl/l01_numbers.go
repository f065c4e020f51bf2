package impl

import (
	"strconv"
	"strings"
)

// Error codes of chapter 1.
const (
	ErrNone = iota
	ErrInvalid
	ErrRange
	ErrLimit
	ErrNotFound
	ErrState
	ErrSyntax
	ErrLoop
)

// Limits of chapter 1.
const (
	MaxTime    = 1000000000
	MaxProduct = 1000000000000000
)

// Modes of chapter 1. They stay untyped, since the functions take modes as int64.
const (
	Early = iota
	Late
)

// maxThousandths is the greatest factor of ScaleTime.
const maxThousandths = 10000

// roundingMode is the mode argument of a function, which need not be a mode.
type roundingMode int64

// isMode reports whether m is Early or Late.
func (m roundingMode) isMode() bool {
	return m == Early || m == Late
}

// quotient returns a divided by a positive b, rounded by m, which is a mode.
func (m roundingMode) quotient(a, b int64) int64 {
	q, rest := a/b, a%b
	// The division of Go truncates toward zero: too high for a negative rest, too low for a
	// positive one.
	switch {
	case m == Early && rest < 0:
		return q - 1
	case m == Late && rest > 0:
		return q + 1
	}
	return q
}

// Span is described in chapter 1.
type Span struct {
	Early int64
	Late  int64
}

// RoundDiv returns the quotient of a and b, rounded by a mode, and ErrNone.
//
// Errors: ErrRange if a is not in -MaxProduct..MaxProduct, b is not in 1..MaxProduct, or mode is
// not a mode.
func RoundDiv(a int64, b int64, mode int64) (int64, int64) {
	m := roundingMode(mode)
	if !inRange(a, -MaxProduct, MaxProduct) || !inRange(b, 1, MaxProduct) || !m.isMode() {
		return 0, ErrRange
	}
	return m.quotient(a, b), ErrNone
}

// ScaleTime returns t times thousandths divided by 1000, rounded by a mode, and ErrNone.
//
// Errors: ErrRange if t is not in -MaxTime..MaxTime, thousandths is not in 0..10000, or mode is
// not a mode.
func ScaleTime(t int64, thousandths int64, mode int64) (int64, int64) {
	m := roundingMode(mode)
	if !isTime(t) || !inRange(thousandths, 0, maxThousandths) || !m.isMode() {
		return 0, ErrRange
	}
	return m.quotient(t*thousandths, 1000), ErrNone
}

// IsSpan reports whether s is valid.
func IsSpan(s Span) bool {
	return isTime(s.Early) && isTime(s.Late) && s.Early <= s.Late
}

// AddSpans returns the span of the sums of the early and of the late values, and ErrNone.
//
// Errors, in this order: ErrInvalid if a or b is not valid; ErrRange if the result is not valid.
func AddSpans(a Span, b Span) (Span, int64) {
	if !IsSpan(a) || !IsSpan(b) {
		return Span{}, ErrInvalid
	}
	sum := Span{Early: a.Early + b.Early, Late: a.Late + b.Late}
	if !IsSpan(sum) {
		return Span{}, ErrRange
	}
	return sum, ErrNone
}

// HullOf returns the smallest span that contains all spans of a list, and ErrNone.
//
// Errors, in this order: ErrInvalid if a span of the list is not valid; ErrNotFound if the list
// is empty.
func HullOf(list []Span) (Span, int64) {
	if len(list) == 0 {
		return Span{}, ErrNotFound
	}
	hull := list[0]
	for _, s := range list {
		if !IsSpan(s) {
			return Span{}, ErrInvalid
		}
		hull.Early = min(hull.Early, s.Early)
		hull.Late = max(hull.Late, s.Late)
	}
	return hull, ErrNone
}

// SpansOverlap reports whether a and b are valid and have a value in common.
func SpansOverlap(a Span, b Span) bool {
	return IsSpan(a) && IsSpan(b) && a.Early <= b.Late && b.Early <= a.Late
}

// FormatTime returns a time in nanoseconds: a minus sign if t is negative, the whole nanoseconds
// in decimal, a point, and three digits. It returns "" if t is not in -MaxTime..MaxTime.
func FormatTime(t int64) string {
	if !isTime(t) {
		return ""
	}
	sign := ""
	if t < 0 {
		sign, t = "-", -t
	}
	// The leading 1 of the sum keeps the zeros of the fraction; it is cut off again.
	fraction := strconv.FormatInt(1000+t%1000, 10)[1:]
	return sign + strconv.FormatInt(t/1000, 10) + "." + fraction
}

// ParseTime returns the time whose FormatTime is s, and true. It returns 0 and false if there is
// none.
func ParseTime(s string) (int64, bool) {
	whole, fraction, _ := strings.Cut(s, ".")
	t, err := strconv.ParseInt(whole+fraction, 10, 64)
	// The number alone may come from other texts too, such as 1.5 or +1.500, so that only the
	// text of the time decides.
	if err != nil || FormatTime(t) != s {
		return 0, false
	}
	return t, true
}

// isTime reports whether t is in -MaxTime..MaxTime.
func isTime(t int64) bool {
	return inRange(t, -MaxTime, MaxTime)
}

// inRange reports whether low <= v <= high.
func inRange(v, low, high int64) bool {
	return low <= v && v <= high
}
