package tests

import (
	"math"
	"slices"
	"testing"

	"loop.example/g01073/impl"
)

// This file checks P35 for functions whose arguments and results are numbers and lists of rows.

// rowsArguments are the arguments of a function of chapter 2 or 3; each function takes some of them. A space stands as the matrix with the rows of its Basis.
type rowsArguments struct {
	p    int
	a, b impl.Matrix
	n    int
	list []int
}

type rowsResults struct {
	matrices []impl.Matrix
	lists    [][]int
	number   int
	ok       bool
}

// rowsCall is a function of chapter 2 or 3 with the odd values to give it as a and, where it takes a second one, as b; mayFail tells that it may fail for valid arguments.
type rowsCall struct {
	name           string
	firsts         func(p int) []impl.Matrix
	seconds        func(p int) []impl.Matrix
	takesN, takesL bool
	mayFail        bool
	isValid        func(x rowsArguments) bool
	call           func(x rowsArguments) rowsResults
}

func matrixResult(m impl.Matrix, ok bool) rowsResults {
	return rowsResults{matrices: []impl.Matrix{m}, ok: ok}
}

func numberResult(n int, ok bool) rowsResults {
	return rowsResults{number: n, ok: ok}
}

// eachArguments calls check with all arguments that f takes.
func (f rowsCall) eachArguments(p int, check func(x rowsArguments)) {
	seconds, numbers, lists := []impl.Matrix{{}}, []int{0}, [][]int{nil}
	if f.seconds != nil {
		seconds = f.seconds(p)
	}
	if f.takesN {
		numbers = oddNumbers()
	}
	if f.takesL {
		lists = oddLists(p)
	}
	for _, a := range f.firsts(p) {
		for _, b := range seconds {
			for _, n := range numbers {
				for _, list := range lists {
					check(rowsArguments{p, a, b, n, list})
				}
			}
		}
	}
}

func (r rowsResults) isZero() bool {
	for _, m := range r.matrices {
		if m.Cols != 0 || len(m.Rows) != 0 {
			return false
		}
	}
	return len(r.lists) == 0 && r.number == 0 && !r.ok
}

func sameResults(r, s rowsResults) bool {
	return slices.EqualFunc(r.matrices, s.matrices, sameMatrix) && slices.EqualFunc(r.lists, s.lists, slices.Equal) && r.number == s.number && r.ok == s.ok
}

// oddFields returns fields and numbers that are none.
func oddFields() []int {
	return []int{math.MinInt, -7, -1, 0, 1, 2, 3, 4, 7, 49, 91, 96, 97, 98, 101, 1 << 32, math.MaxInt}
}

// checkTotal checks that a function accepts odd arguments, and succeeds exactly for valid ones unless it may fail.
func checkTotal(t *testing.T, f rowsCall) {
	for _, p := range oddFields() {
		f.eachArguments(p, func(x rowsArguments) {
			r := f.call(x)
			if !r.ok && !r.isZero() {
				t.Fatal(f.name, "fails with a result", x, r)
			}
			if valid := f.isValid(x); r.ok && !valid || !r.ok && valid && !f.mayFail {
				t.Fatal(f.name, "of arguments that are valid:", valid, x, r)
			}
		})
	}
}

const guard = -77

// guardedList returns a copy with guards in the capacity behind its length.
func guardedList(list []int) []int {
	return append(slices.Clone(list), guard, guard)[:len(list)]
}

// guardedMatrix returns a copy with guards in the capacities behind the lengths.
func guardedMatrix(m impl.Matrix) impl.Matrix {
	rows := make([][]int, len(m.Rows), len(m.Rows)+1)
	for i, row := range m.Rows {
		rows[i] = guardedList(row)
	}
	rows[:len(rows)+1][len(rows)] = []int{guard}
	return impl.Matrix{Cols: m.Cols, Rows: rows}
}

// isGuardedList reports whether list is still a guarded copy of want.
func isGuardedList(list, want []int) bool {
	return slices.Equal(list[:len(want)+2], append(slices.Clone(want), guard, guard))
}

func isGuardedMatrix(m, want impl.Matrix) bool {
	n := len(want.Rows)
	return m.Cols == want.Cols && slices.EqualFunc(m.Rows, want.Rows, isGuardedList) && slices.Equal(m.Rows[:n+1][n], []int{guard})
}

// rowLists returns the lists of rows of the results.
func (r rowsResults) rowLists() [][][]int {
	lists := [][][]int{r.lists}
	for _, m := range r.matrices {
		lists = append(lists, m.Rows)
	}
	return lists
}

// overwrite writes different numbers into all rows of the results, in the capacity of each, and reports whether they are still there at the end: not so if two rows share memory.
func (r rowsResults) overwrite() bool {
	var rows [][]int
	for _, list := range r.rowLists() {
		for _, row := range list {
			rows = append(rows, row[:cap(row)])
		}
	}
	for i, row := range rows {
		for j := range row {
			row[j] = 1000 + i
		}
	}
	for i, row := range rows {
		if slices.ContainsFunc(row, func(x int) bool { return x != 1000+i }) {
			return false
		}
	}
	for _, list := range r.rowLists() {
		clear(list[:cap(list)])
	}
	return true
}

// checkMemory checks that a function modifies no argument, hands none out and keeps none.
func checkMemory(t *testing.T, f rowsCall) {
	for _, p := range []int{2, 5, 97} {
		f.eachArguments(p, func(x rowsArguments) {
			if max(len(x.a.Rows), len(x.b.Rows), len(x.list)) > 100 {
				return
			}
			guarded := rowsArguments{p, guardedMatrix(x.a), guardedMatrix(x.b), x.n, guardedList(x.list)}
			first := f.call(guarded)
			if !sameResults(first, f.call(x)) {
				t.Fatal(f.name, "depends on a capacity or an earlier call", x)
			}
			if !first.overwrite() {
				t.Fatal(f.name, "has results that share memory", x)
			}
			if !isGuardedMatrix(guarded.a, x.a) || !isGuardedMatrix(guarded.b, x.b) || !isGuardedList(guarded.list, x.list) {
				t.Fatal(f.name, "changes its arguments or hands them out", x, guarded)
			}
			if !sameResults(f.call(guarded), f.call(x)) {
				t.Fatal(f.name, "depends on earlier results", x)
			}
		})
	}
}
