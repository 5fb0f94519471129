package tests

import (
	"math"
	"slices"
	"testing"

	"loop.example/g01073/impl"
)

// matrixArguments are the arguments of a function of chapter 2; each function takes some of them.
type matrixArguments struct {
	p    int
	a, b impl.Matrix
	n    int
	list []int
}

type matrixResults struct {
	matrices []impl.Matrix
	lists    [][]int
	number   int
	ok       bool
}

// matrixCall is a function of chapter 2; mayFail tells that it may fail for valid arguments.
type matrixCall struct {
	name                   string
	takesB, takesN, takesL bool
	mayFail                bool
	isValid                func(x matrixArguments) bool
	call                   func(x matrixArguments) matrixResults
}

func matrixResult(m impl.Matrix, ok bool) matrixResults {
	return matrixResults{matrices: []impl.Matrix{m}, ok: ok}
}

func numberResult(n int, ok bool) matrixResults {
	return matrixResults{number: n, ok: ok}
}

// isMatrix follows the definition of a matrix.
func isMatrix(p int, m impl.Matrix) bool {
	if !slices.Contains(fields, p) || m.Cols < 0 || m.Cols > maxSide || len(m.Rows) > maxSide {
		return false
	}
	for _, row := range m.Rows {
		if len(row) != m.Cols || !isElementList(p, row) {
			return false
		}
	}
	return true
}

func isElementList(p int, list []int) bool {
	return !slices.ContainsFunc(list, func(x int) bool { return x < 0 || x >= p })
}

func isOneMatrix(x matrixArguments) bool { return isMatrix(x.p, x.a) }

func isSquare(x matrixArguments) bool {
	return isMatrix(x.p, x.a) && x.a.Cols == len(x.a.Rows)
}

func matrixCalls() []matrixCall {
	return []matrixCall{
		{name: "IdentityMatrix", takesN: true,
			isValid: func(x matrixArguments) bool { return x.n >= 0 && x.n <= maxSide },
			call:    func(x matrixArguments) matrixResults { return matrixResult(impl.IdentityMatrix(x.n)) }},
		{name: "AddMatrices", takesB: true,
			isValid: func(x matrixArguments) bool {
				return isMatrix(x.p, x.a) && isMatrix(x.p, x.b) && x.a.Cols == x.b.Cols && len(x.a.Rows) == len(x.b.Rows)
			},
			call: func(x matrixArguments) matrixResults { return matrixResult(impl.AddMatrices(x.p, x.a, x.b)) }},
		{name: "MulMatrices", takesB: true,
			isValid: func(x matrixArguments) bool {
				return isMatrix(x.p, x.a) && isMatrix(x.p, x.b) && x.a.Cols == len(x.b.Rows)
			},
			call: func(x matrixArguments) matrixResults { return matrixResult(impl.MulMatrices(x.p, x.a, x.b)) }},
		{name: "MatrixPower", takesN: true,
			isValid: func(x matrixArguments) bool { return isSquare(x) && x.n >= 0 && x.n <= 1000 },
			call:    func(x matrixArguments) matrixResults { return matrixResult(impl.MatrixPower(x.p, x.a, x.n)) }},
		{name: "Transpose", isValid: isOneMatrix,
			call: func(x matrixArguments) matrixResults { return matrixResult(impl.Transpose(x.p, x.a)) }},
		{name: "RowReduce", isValid: isOneMatrix,
			call: func(x matrixArguments) matrixResults {
				reduced, transform, ok := impl.RowReduce(x.p, x.a)
				return matrixResults{matrices: []impl.Matrix{reduced, transform}, ok: ok}
			}},
		{name: "RankOf", isValid: isOneMatrix,
			call: func(x matrixArguments) matrixResults { return numberResult(impl.RankOf(x.p, x.a)) }},
		{name: "InverseOf", mayFail: true, isValid: isSquare,
			call: func(x matrixArguments) matrixResults { return matrixResult(impl.InverseOf(x.p, x.a)) }},
		{name: "DeterminantOf", isValid: isSquare,
			call: func(x matrixArguments) matrixResults { return numberResult(impl.DeterminantOf(x.p, x.a)) }},
		{name: "SolveLinear", takesL: true, mayFail: true,
			isValid: func(x matrixArguments) bool {
				return isMatrix(x.p, x.a) && len(x.list) == x.a.Cols && isElementList(x.p, x.list)
			},
			call: func(x matrixArguments) matrixResults {
				solution, ok := impl.SolveLinear(x.p, x.a, x.list)
				if solution == nil {
					return matrixResults{ok: ok}
				}
				return matrixResults{lists: [][]int{solution}, ok: ok}
			}},
		{name: "KernelOf", isValid: isOneMatrix,
			call: func(x matrixArguments) matrixResults {
				kernel, ok := impl.KernelOf(x.p, x.a)
				return matrixResults{lists: kernel, ok: ok}
			}},
	}
}

// oddMatrices returns matrices over p and values that are none.
func oddMatrices(p int) []impl.Matrix {
	row := []int{1, 0}
	matrices := []impl.Matrix{
		{}, matrixOf(3), matrixOf(maxSide), matrixOf(maxSide + 1), matrixOf(-1), matrixOf(-1, []int{}), matrixOf(math.MinInt), matrixOf(math.MaxInt),
		matrixOf(math.MaxInt, []int{1}), matrixOf(1<<32, []int{}), matrixOf(0, nil, nil), matrixOf(0, []int{}, nil, []int{}), matrixOf(0, []int{1}),
		zeroMatrix(maxSide, 0), zeroMatrix(maxSide+1, 0), zeroMatrix(1, maxSide), zeroMatrix(1, maxSide+1), zeroMatrix(maxSide+1, 1), zeroMatrix(2000, 2000),
		zeroMatrix(maxSide, maxSide), unitMatrix(maxSide), unitMatrix(maxSide + 1), shiftMatrix(maxSide, 5),
		matrixOf(2, []int{1}, []int{1, 0}), matrixOf(2, []int{1, 0}, nil), matrixOf(2, []int{1, 0, 0}, []int{0, 1, 0}), matrixOf(2, nil, nil),
		matrixOf(2, row, row), matrixOf(2, []int{0, 1}, []int{1, 0}), matrixOf(2, []int{1, 1}, []int{1, 1}), matrixOf(3, []int{0, 1, 1}, []int{1, 0, 1}),
		matrixOf(2, []int{0, 1}, []int{1, 1}, []int{1, 0}), matrixOf(1, []int{0}), matrixOf(1, []int{1}),
	}
	for _, element := range []int{-1, p, p - 1, 2, 96, 97, math.MaxInt, math.MinInt} {
		matrices = append(matrices, matrixOf(2, []int{1, 0}, []int{0, element}), matrixOf(1, []int{element}))
	}
	return matrices
}

func oddNumbers() []int {
	return []int{math.MinInt, math.MinInt + 1, -1, 0, 1, 2, 3, maxSide, maxSide + 1, 999, 1000, 1001, 1 << 32, math.MaxInt}
}

func oddLists(p int) [][]int {
	return [][]int{nil, {}, {0}, {1}, {0, 0}, {1, 0}, {0, 1}, {1, 1, 1}, {p, 0}, {0, p - 1}, {-1, 0}, {math.MinInt, math.MaxInt}, make([]int, maxSide), make([]int, maxSide+1), make([]int, 100000)}
}

// eachArguments calls check with all arguments that f takes.
func (f matrixCall) eachArguments(p int, check func(x matrixArguments)) {
	seconds, numbers, lists := []impl.Matrix{{}}, []int{0}, [][]int{nil}
	if f.takesB {
		seconds = oddMatrices(p)
	}
	if f.takesN {
		numbers = oddNumbers()
	}
	if f.takesL {
		lists = oddLists(p)
	}
	for _, a := range oddMatrices(p) {
		for _, b := range seconds {
			for _, n := range numbers {
				for _, list := range lists {
					check(matrixArguments{p, a, b, n, list})
				}
			}
		}
	}
}

func (r matrixResults) isZero() bool {
	for _, m := range r.matrices {
		if m.Cols != 0 || len(m.Rows) != 0 {
			return false
		}
	}
	return len(r.lists) == 0 && r.number == 0 && !r.ok
}

func sameResults(r, s matrixResults) bool {
	return slices.EqualFunc(r.matrices, s.matrices, sameMatrix) && slices.EqualFunc(r.lists, s.lists, slices.Equal) && r.number == s.number && r.ok == s.ok
}

func TestMatrixFunctionsAreTotal(t *testing.T) {
	for _, p := range []int{math.MinInt, -7, -1, 0, 1, 2, 3, 4, 7, 49, 91, 96, 97, 98, 101, 1 << 32, math.MaxInt} {
		for _, m := range oddMatrices(p) {
			if impl.IsMatrix(p, m) != isMatrix(p, m) {
				t.Fatal("IsMatrix", p, m)
			}
		}
		for _, f := range matrixCalls() {
			f.eachArguments(p, func(x matrixArguments) {
				r := f.call(x)
				if !r.ok && !r.isZero() {
					t.Fatal(f.name, "fails with a result", x, r)
				}
				if valid := f.isValid(x); r.ok && !valid || !r.ok && valid && !f.mayFail {
					t.Fatal(f.name, "of arguments that are valid:", valid, x, r)
				}
			})
		}
	}
}

const guard = -77

// guardedList returns a copy with guards in the capacity behind its length.
func guardedList(list []int) []int {
	return append(slices.Clone(list), guard, guard)[:len(list)]
}

// guardedMatrix returns a copy with guards in the capacities behind the lengths.
func guardedMatrix(m impl.Matrix) impl.Matrix {
	rows := make([][]int, len(m.Rows), len(m.Rows)+1)
	for i, row := range m.Rows {
		rows[i] = guardedList(row)
	}
	rows[:len(rows)+1][len(rows)] = []int{guard}
	return impl.Matrix{Cols: m.Cols, Rows: rows}
}

// isGuardedList reports whether list is still a guarded copy of want.
func isGuardedList(list, want []int) bool {
	return slices.Equal(list[:len(want)+2], append(slices.Clone(want), guard, guard))
}

func isGuardedMatrix(m, want impl.Matrix) bool {
	n := len(want.Rows)
	return m.Cols == want.Cols && slices.EqualFunc(m.Rows, want.Rows, isGuardedList) && slices.Equal(m.Rows[:n+1][n], []int{guard})
}

// rowLists returns the lists of rows of the results.
func (r matrixResults) rowLists() [][][]int {
	lists := [][][]int{r.lists}
	for _, m := range r.matrices {
		lists = append(lists, m.Rows)
	}
	return lists
}

// overwrite writes different numbers into all rows of the results, in the capacity of each, and reports whether they are still there at the end: not so if two rows share memory.
func (r matrixResults) overwrite() bool {
	var rows [][]int
	for _, list := range r.rowLists() {
		for _, row := range list {
			rows = append(rows, row[:cap(row)])
		}
	}
	for i, row := range rows {
		for j := range row {
			row[j] = 1000 + i
		}
	}
	for i, row := range rows {
		if slices.ContainsFunc(row, func(x int) bool { return x != 1000+i }) {
			return false
		}
	}
	for _, list := range r.rowLists() {
		clear(list[:cap(list)])
	}
	return true
}

func TestMatrixFunctionsShareNoMemory(t *testing.T) {
	for _, p := range []int{2, 5, 97} {
		for _, f := range matrixCalls() {
			f.eachArguments(p, func(x matrixArguments) {
				if len(x.a.Rows) > maxSide || len(x.b.Rows) > maxSide || len(x.list) > maxSide {
					return
				}
				guarded := matrixArguments{p, guardedMatrix(x.a), guardedMatrix(x.b), x.n, guardedList(x.list)}
				first := f.call(guarded)
				if !sameResults(first, f.call(x)) {
					t.Fatal(f.name, "depends on a capacity or an earlier call", x)
				}
				if !first.overwrite() {
					t.Fatal(f.name, "has results that share memory", x)
				}
				if !isGuardedMatrix(guarded.a, x.a) || !isGuardedMatrix(guarded.b, x.b) || !isGuardedList(guarded.list, x.list) {
					t.Fatal(f.name, "changes its arguments or hands them out", x, guarded)
				}
				if !sameResults(f.call(guarded), f.call(x)) {
					t.Fatal(f.name, "depends on earlier results", x)
				}
			})
		}
	}
}

// TestMatrixArgumentsMayBeEqual gives the same matrix twice, and one whose rows share memory.
func TestMatrixArgumentsMayBeEqual(t *testing.T) {
	row := []int{1, 2}
	m := matrixOf(2, row, row)
	if sum, ok := impl.AddMatrices(5, m, m); !ok || !sameMatrix(sum, matrixOf(2, []int{2, 4}, []int{2, 4})) {
		t.Error("sum", sum, ok)
	}
	if product, ok := impl.MulMatrices(5, m, m); !ok || !sameMatrix(product, matrixOf(2, []int{3, 1}, []int{3, 1})) {
		t.Error("product", product, ok)
	}
	reduced, transform, ok := impl.RowReduce(5, m)
	if !ok || !sameMatrix(reduced, matrixOf(2, []int{1, 2}, []int{0, 0})) || !sameMatrix(transform, matrixOf(2, []int{1, 0}, []int{4, 1})) {
		t.Error("reduction", reduced, transform, ok)
	}
	if !slices.Equal(row, []int{1, 2}) {
		t.Error("the row is modified", row)
	}
}
