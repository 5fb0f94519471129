package tests

import (
	"math"
	"slices"
	"testing"

	"loop.example/g01073/impl"
)

// isMatrix follows the definition of a matrix.
func isMatrix(p int, m impl.Matrix) bool {
	if !slices.Contains(fields, p) || m.Cols < 0 || m.Cols > maxSide || len(m.Rows) > maxSide {
		return false
	}
	for _, row := range m.Rows {
		if len(row) != m.Cols || !isElementList(p, row) {
			return false
		}
	}
	return true
}

func isElementList(p int, list []int) bool {
	return !slices.ContainsFunc(list, func(x int) bool { return x < 0 || x >= p })
}

func isOneMatrix(x rowsArguments) bool { return isMatrix(x.p, x.a) }

func isSquare(x rowsArguments) bool {
	return isMatrix(x.p, x.a) && x.a.Cols == len(x.a.Rows)
}

func matrixCalls() []rowsCall {
	return []rowsCall{
		{name: "IdentityMatrix", firsts: noMatrices, takesN: true,
			isValid: func(x rowsArguments) bool { return x.n >= 0 && x.n <= maxSide },
			call:    func(x rowsArguments) rowsResults { return matrixResult(impl.IdentityMatrix(x.n)) }},
		{name: "AddMatrices", firsts: oddMatrices, seconds: oddMatrices,
			isValid: func(x rowsArguments) bool {
				return isMatrix(x.p, x.a) && isMatrix(x.p, x.b) && x.a.Cols == x.b.Cols && len(x.a.Rows) == len(x.b.Rows)
			},
			call: func(x rowsArguments) rowsResults { return matrixResult(impl.AddMatrices(x.p, x.a, x.b)) }},
		{name: "MulMatrices", firsts: oddMatrices, seconds: oddMatrices,
			isValid: func(x rowsArguments) bool {
				return isMatrix(x.p, x.a) && isMatrix(x.p, x.b) && x.a.Cols == len(x.b.Rows)
			},
			call: func(x rowsArguments) rowsResults { return matrixResult(impl.MulMatrices(x.p, x.a, x.b)) }},
		{name: "MatrixPower", firsts: oddMatrices, takesN: true,
			isValid: func(x rowsArguments) bool { return isSquare(x) && x.n >= 0 && x.n <= 1000 },
			call:    func(x rowsArguments) rowsResults { return matrixResult(impl.MatrixPower(x.p, x.a, x.n)) }},
		{name: "Transpose", firsts: oddMatrices, isValid: isOneMatrix,
			call: func(x rowsArguments) rowsResults { return matrixResult(impl.Transpose(x.p, x.a)) }},
		{name: "RowReduce", firsts: oddMatrices, isValid: isOneMatrix,
			call: func(x rowsArguments) rowsResults {
				reduced, transform, ok := impl.RowReduce(x.p, x.a)
				return rowsResults{matrices: []impl.Matrix{reduced, transform}, ok: ok}
			}},
		{name: "RankOf", firsts: oddMatrices, isValid: isOneMatrix,
			call: func(x rowsArguments) rowsResults { return numberResult(impl.RankOf(x.p, x.a)) }},
		{name: "InverseOf", firsts: oddMatrices, mayFail: true, isValid: isSquare,
			call: func(x rowsArguments) rowsResults { return matrixResult(impl.InverseOf(x.p, x.a)) }},
		{name: "DeterminantOf", firsts: oddMatrices, isValid: isSquare,
			call: func(x rowsArguments) rowsResults { return numberResult(impl.DeterminantOf(x.p, x.a)) }},
		{name: "SolveLinear", firsts: oddMatrices, takesL: true, mayFail: true,
			isValid: func(x rowsArguments) bool {
				return isMatrix(x.p, x.a) && len(x.list) == x.a.Cols && isElementList(x.p, x.list)
			},
			call: func(x rowsArguments) rowsResults {
				solution, ok := impl.SolveLinear(x.p, x.a, x.list)
				if solution == nil {
					return rowsResults{ok: ok}
				}
				return rowsResults{lists: [][]int{solution}, ok: ok}
			}},
		{name: "KernelOf", firsts: oddMatrices, isValid: isOneMatrix,
			call: func(x rowsArguments) rowsResults {
				kernel, ok := impl.KernelOf(x.p, x.a)
				return rowsResults{lists: kernel, ok: ok}
			}},
	}
}

// noMatrices stands for the matrices of a function that takes none.
func noMatrices(int) []impl.Matrix { return []impl.Matrix{{}} }

// oddMatrices returns matrices over p and values that are none.
func oddMatrices(p int) []impl.Matrix {
	row := []int{1, 0}
	matrices := []impl.Matrix{
		{}, matrixOf(3), matrixOf(maxSide), matrixOf(maxSide + 1), matrixOf(-1), matrixOf(-1, []int{}), matrixOf(math.MinInt), matrixOf(math.MaxInt),
		matrixOf(math.MaxInt, []int{1}), matrixOf(1<<32, []int{}), matrixOf(0, nil, nil), matrixOf(0, []int{}, nil, []int{}), matrixOf(0, []int{1}),
		zeroMatrix(maxSide, 0), zeroMatrix(maxSide+1, 0), zeroMatrix(1, maxSide), zeroMatrix(1, maxSide+1), zeroMatrix(maxSide+1, 1), zeroMatrix(200, 200),
		zeroMatrix(maxSide, maxSide), unitMatrix(maxSide), unitMatrix(maxSide + 1), shiftMatrix(maxSide, 5),
		matrixOf(2, []int{1}, []int{1, 0}), matrixOf(2, []int{1, 0}, nil), matrixOf(2, []int{1, 0, 0}, []int{0, 1, 0}), matrixOf(2, nil, nil),
		matrixOf(2, row, row), matrixOf(2, []int{0, 1}, []int{1, 0}), matrixOf(2, []int{1, 1}, []int{1, 1}), matrixOf(3, []int{0, 1, 1}, []int{1, 0, 1}),
		matrixOf(2, []int{0, 1}, []int{1, 1}, []int{1, 0}), matrixOf(1, []int{0}), matrixOf(1, []int{1}),
	}
	for _, element := range []int{-1, p, p - 1, 2, 96, 97, math.MaxInt, math.MinInt} {
		matrices = append(matrices, matrixOf(2, []int{1, 0}, []int{0, element}), matrixOf(1, []int{element}))
	}
	return matrices
}

func oddNumbers() []int {
	return []int{math.MinInt, math.MinInt + 1, -1, 0, 1, 2, 3, maxSide, maxSide + 1, 999, 1000, 1001, 1 << 32, math.MaxInt}
}

func oddLists(p int) [][]int {
	return [][]int{nil, {}, {0}, {1}, {0, 0}, {1, 0}, {0, 1}, {1, 1, 1}, {p, 0}, {0, p - 1}, {-1, 0}, {math.MinInt, math.MaxInt}, make([]int, maxSide), make([]int, maxSide+1), make([]int, 100000)}
}

func TestMatrixFunctionsAreTotal(t *testing.T) {
	for _, p := range oddFields() {
		for _, m := range oddMatrices(p) {
			if impl.IsMatrix(p, m) != isMatrix(p, m) {
				t.Fatal("IsMatrix", p, m)
			}
		}
	}
	for _, f := range matrixCalls() {
		checkTotal(t, f)
	}
}

func TestMatrixFunctionsShareNoMemory(t *testing.T) {
	for _, f := range matrixCalls() {
		checkMemory(t, f)
	}
}

// TestMatrixArgumentsMayBeEqual gives the same matrix twice, and one whose rows share memory.
func TestMatrixArgumentsMayBeEqual(t *testing.T) {
	row := []int{1, 2}
	m := matrixOf(2, row, row)
	if sum, ok := impl.AddMatrices(5, m, m); !ok || !sameMatrix(sum, matrixOf(2, []int{2, 4}, []int{2, 4})) {
		t.Error("sum", sum, ok)
	}
	if product, ok := impl.MulMatrices(5, m, m); !ok || !sameMatrix(product, matrixOf(2, []int{3, 1}, []int{3, 1})) {
		t.Error("product", product, ok)
	}
	reduced, transform, ok := impl.RowReduce(5, m)
	if !ok || !sameMatrix(reduced, matrixOf(2, []int{1, 2}, []int{0, 0})) || !sameMatrix(transform, matrixOf(2, []int{1, 0}, []int{4, 1})) {
		t.Error("reduction", reduced, transform, ok)
	}
	if !slices.Equal(row, []int{1, 2}) {
		t.Error("the row is modified", row)
	}
}
