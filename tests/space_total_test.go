package tests

import (
	"math"
	"slices"
	"testing"

	"loop.example/g01073/impl"
)

// spaceIn returns the space for which a matrix stands.
func spaceIn(m impl.Matrix) impl.Space {
	return impl.Space{Size: m.Cols, Basis: m.Rows}
}

func spaceResult(s impl.Space, ok bool) rowsResults {
	return matrixResult(impl.Matrix{Cols: s.Size, Rows: s.Basis}, ok)
}

func listResult(list []int, ok bool) rowsResults {
	if list == nil {
		return rowsResults{ok: ok}
	}
	return rowsResults{lists: [][]int{list}, ok: ok}
}

func truthResult(is, ok bool) rowsResults {
	if is {
		return rowsResults{number: 1, ok: ok}
	}
	return rowsResults{ok: ok}
}

// isSpace follows the definition of a space.
func isSpace(p int, m impl.Matrix) bool {
	return isMatrix(p, m) && isReducedList(m.Rows)
}

func isOneSpace(x rowsArguments) bool { return isSpace(x.p, x.a) }

func areTwoSpaces(x rowsArguments) bool {
	return isSpace(x.p, x.a) && isSpace(x.p, x.b) && x.a.Cols == x.b.Cols
}

func isSpaceWithVector(x rowsArguments) bool {
	return isSpace(x.p, x.a) && len(x.list) == x.a.Cols && isElementList(x.p, x.list)
}

func spaceCalls() []rowsCall {
	return []rowsCall{
		{name: "SpanOf", firsts: oddSpans, takesN: true, isValid: isSpan,
			call: func(x rowsArguments) rowsResults { return spaceResult(impl.SpanOf(x.p, x.n, x.a.Rows)) }},
		{name: "SumOf", firsts: oddSpaces, seconds: oddSpaces, isValid: areTwoSpaces,
			call: func(x rowsArguments) rowsResults { return spaceResult(impl.SumOf(x.p, spaceIn(x.a), spaceIn(x.b))) }},
		{name: "MeetOf", firsts: oddSpaces, seconds: oddSpaces, isValid: areTwoSpaces,
			call: func(x rowsArguments) rowsResults { return spaceResult(impl.MeetOf(x.p, spaceIn(x.a), spaceIn(x.b))) }},
		{name: "OrthogonalOf", firsts: oddSpaces, isValid: isOneSpace,
			call: func(x rowsArguments) rowsResults { return spaceResult(impl.OrthogonalOf(x.p, spaceIn(x.a))) }},
		{name: "HasVector", firsts: oddSpaces, takesL: true, isValid: isSpaceWithVector,
			call: func(x rowsArguments) rowsResults { return truthResult(impl.HasVector(x.p, spaceIn(x.a), x.list)) }},
		{name: "CoordinatesOf", firsts: oddSpaces, takesL: true, mayFail: true, isValid: isSpaceWithVector,
			call: func(x rowsArguments) rowsResults { return listResult(impl.CoordinatesOf(x.p, spaceIn(x.a), x.list)) }},
		{name: "SeparatorOf", firsts: oddSpaces, takesL: true, mayFail: true, isValid: isSpaceWithVector,
			call: func(x rowsArguments) rowsResults { return listResult(impl.SeparatorOf(x.p, spaceIn(x.a), x.list)) }},
		{name: "ImageOf", firsts: oddSpaces, seconds: oddMatrices,
			isValid: func(x rowsArguments) bool {
				return isSpace(x.p, x.a) && isMatrix(x.p, x.b) && len(x.b.Rows) == x.a.Cols
			},
			call: func(x rowsArguments) rowsResults { return spaceResult(impl.ImageOf(x.p, spaceIn(x.a), x.b)) }},
		{name: "PreimageOf", firsts: oddSpaces, seconds: oddMatrices,
			isValid: func(x rowsArguments) bool { return isSpace(x.p, x.a) && isMatrix(x.p, x.b) && x.b.Cols == x.a.Cols },
			call:    func(x rowsArguments) rowsResults { return spaceResult(impl.PreimageOf(x.p, spaceIn(x.a), x.b)) }},
		{name: "ProjectOf", firsts: oddSpaces, takesL: true,
			isValid: func(x rowsArguments) bool {
				return isSpace(x.p, x.a) && len(x.list) <= maxSide && isElementList(x.a.Cols, x.list)
			},
			call: func(x rowsArguments) rowsResults { return spaceResult(impl.ProjectOf(x.p, spaceIn(x.a), x.list)) }},
	}
}

// isSpan reports whether x.n is a size and x.a.Rows are rows for SpanOf; x.a.Cols is not given to it.
func isSpan(x rowsArguments) bool {
	return slices.Contains(fields, x.p) && x.n >= 0 && x.n <= maxSide && len(x.a.Rows) <= 48 &&
		!slices.ContainsFunc(x.a.Rows, func(row []int) bool { return len(row) != x.n || !isElementList(x.p, row) })
}

// oddSpans returns rows for SpanOf.
func oddSpans(p int) []impl.Matrix {
	return append(oddMatrices(p), zeroMatrix(48, 3), zeroMatrix(49, 3), zeroMatrix(48, 0), zeroMatrix(49, 0), zeroMatrix(48, maxSide), zeroMatrix(49, maxSide))
}

// oddSpaces returns spaces over p and values that are none.
func oddSpaces(p int) []impl.Matrix {
	row := []int{1, 1}
	return append(oddMatrices(p),
		zeroMatrix(0, 1), zeroMatrix(0, 2), zeroMatrix(0, maxSide-1), zeroMatrix(0, maxSide+1), unitMatrix(1), unitMatrix(2), unitMatrix(maxSide-1), unitMatrix(100),
		matrixOf(2, row), matrixOf(2, row, row), matrixOf(2, []int{0, 1}), matrixOf(2, []int{1, p - 1}), matrixOf(2, []int{1, p}), matrixOf(2, []int{1, math.MaxInt}),
		matrixOf(2, slices.Repeat([][]int{row}, maxSide+1)...), matrixOf(3, []int{1, 0, 1}, []int{0, 1, 1}), matrixOf(3, []int{1, 0, 1}, []int{0, 1, 1}, []int{0, 0, 1}), matrixOf(3, []int{1, 1, 0}, []int{0, 0, 1}), matrixOf(3, []int{0, 0, 1}, []int{1, 1, 0}))
}

func TestSpaceFunctionsAreTotal(t *testing.T) {
	for _, p := range oddFields() {
		for _, m := range oddSpaces(p) {
			if impl.IsSpace(p, spaceIn(m)) != isSpace(p, m) {
				t.Fatal("IsSpace", p, m)
			}
		}
	}
	for _, f := range spaceCalls() {
		checkTotal(t, f)
	}
}

func TestSpaceFunctionsShareNoMemory(t *testing.T) {
	for _, f := range spaceCalls() {
		checkMemory(t, f)
	}
}
