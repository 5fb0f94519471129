package tests

import (
	"math/rand/v2"
	"slices"

	"loop.example/g01073/impl"
)

// This file has matrices to test with and computations with them that do not use the program.

const maxSide = 24

type matrixCase struct {
	p int
	m impl.Matrix
}

func matrixOf(cols int, rows ...[]int) impl.Matrix {
	return impl.Matrix{Cols: cols, Rows: rows}
}

func copyMatrix(m impl.Matrix) impl.Matrix {
	rows := make([][]int, len(m.Rows))
	for i, row := range m.Rows {
		rows[i] = slices.Clone(row)
	}
	return impl.Matrix{Cols: m.Cols, Rows: rows}
}

// sameMatrix does not tell nil from empty lists.
func sameMatrix(a, b impl.Matrix) bool {
	return a.Cols == b.Cols && slices.EqualFunc(a.Rows, b.Rows, slices.Equal)
}

func zeroMatrix(rows, cols int) impl.Matrix {
	m := impl.Matrix{Cols: cols}
	for range rows {
		m.Rows = append(m.Rows, make([]int, cols))
	}
	return m
}

func unitMatrix(n int) impl.Matrix {
	m := zeroMatrix(n, n)
	for i := range n {
		m.Rows[i][i] = 1
	}
	return m
}

// shiftMatrix returns the matrix with n rows whose row i has its only 1 by places behind the index i.
func shiftMatrix(n, places int) impl.Matrix {
	m := zeroMatrix(n, n)
	for i := range n {
		m.Rows[i][(i+places)%n] = 1
	}
	return m
}

func randomMatrix(source *rand.Rand, p, rows, cols int) impl.Matrix {
	m := zeroMatrix(rows, cols)
	for _, row := range m.Rows {
		for j := range row {
			row[j] = source.IntN(p)
		}
	}
	return m
}

// thinMatrix returns a matrix with many zeros, so that rows are exchanged and columns skipped.
func thinMatrix(source *rand.Rand, p, rows, cols int) impl.Matrix {
	m := zeroMatrix(rows, cols)
	for _, row := range m.Rows {
		for j := range row {
			if source.IntN(4) == 0 {
				row[j] = source.IntN(p)
			}
		}
	}
	return m
}

func randomList(source *rand.Rand, p, n int) []int {
	list := make([]int, n)
	for i := range list {
		list[i] = source.IntN(p)
	}
	return list
}

// elementsOf returns 0, ..., p-1.
func elementsOf(p int) []int {
	list := make([]int, p)
	for i := range list {
		list[i] = i
	}
	return list
}

// allMatrices returns all matrices of a size.
func allMatrices(p, rows, cols int) []matrixCase {
	var cases []matrixCase
	for _, elements := range argumentLists(elementsOf(p), rows*cols) {
		m := impl.Matrix{Cols: cols}
		for i := range rows {
			m.Rows = append(m.Rows, slices.Clone(elements[i*cols:(i+1)*cols]))
		}
		cases = append(cases, matrixCase{p, m})
	}
	return cases
}

// matrixCases returns all matrices of some small sizes, and matrices of many sizes and ranks, without rows or columns and with most of them included.
func matrixCases() []matrixCase {
	cases := slices.Concat(allMatrices(2, 2, 2), allMatrices(2, 2, 4), allMatrices(2, 3, 3), allMatrices(3, 2, 2), allMatrices(3, 3, 2), allMatrices(5, 2, 2))
	source := rand.New(rand.NewPCG(2, 35))
	sides := []int{0, 1, 2, 3, 4, 6, maxSide - 1, maxSide}
	for _, p := range []int{2, 3, 5, 7, 53, 97} {
		for _, rows := range sides {
			for _, cols := range sides {
				low := max(1, min(rows, cols)/2)
				cases = append(cases,
					matrixCase{p, zeroMatrix(rows, cols)},
					matrixCase{p, randomMatrix(source, p, rows, cols)},
					matrixCase{p, thinMatrix(source, p, rows, cols)},
					matrixCase{p, productOf(p, randomMatrix(source, p, rows, low), randomMatrix(source, p, low, cols))})
			}
		}
	}
	return cases
}

// squareCases returns the square matrices of matrixCases.
func squareCases() []matrixCase {
	return slices.DeleteFunc(matrixCases(), func(c matrixCase) bool { return c.m.Cols != len(c.m.Rows) })
}

// listTimes returns the product of a list with a matrix.
func listTimes(p int, x []int, m impl.Matrix) []int {
	product := make([]int, m.Cols)
	for j := range product {
		for i := range x {
			product[j] = (product[j] + x[i]*m.Rows[i][j]) % p
		}
	}
	return product
}

func productOf(p int, a, b impl.Matrix) impl.Matrix {
	product := impl.Matrix{Cols: b.Cols}
	for _, row := range a.Rows {
		product.Rows = append(product.Rows, listTimes(p, row, b))
	}
	return product
}

// reduceBeside follows the document's steps with the rows of m and of an identity matrix joined in one list each.
func reduceBeside(p int, m impl.Matrix) (impl.Matrix, impl.Matrix) {
	n := len(m.Rows)
	rows := make([][]int, n)
	for i, row := range unitMatrix(n).Rows {
		rows[i] = slices.Concat(m.Rows[i], row)
	}
	r := 0
	for c := range m.Cols {
		first := slices.IndexFunc(rows[r:], func(row []int) bool { return row[c] != 0 })
		if first < 0 {
			continue
		}
		rows[r], rows[r+first] = rows[r+first], rows[r]
		inverse := 1 + slices.IndexFunc(elementsOf(p)[1:], func(x int) bool { return x*rows[r][c]%p == 1 })
		for j := range rows[r] {
			rows[r][j] = rows[r][j] * inverse % p
		}
		for i, row := range rows {
			for multiple := row[c]; i != r && multiple > 0; multiple-- {
				for j := range row {
					row[j] = (row[j] + p - rows[r][j]) % p
				}
			}
		}
		r++
	}
	reduced, transform := impl.Matrix{Cols: m.Cols}, impl.Matrix{Cols: n}
	for _, row := range rows {
		reduced.Rows = append(reduced.Rows, row[:m.Cols])
		transform.Rows = append(transform.Rows, row[m.Cols:])
	}
	return reduced, transform
}

// leadingIndex returns the index of the first element other than 0, or -1 in a zero list.
func leadingIndex(list []int) int {
	return slices.IndexFunc(list, func(x int) bool { return x != 0 })
}

// isReducedList reports whether the lists are a reduced list of vectors.
func isReducedList(lists [][]int) bool {
	before := -1
	for i, list := range lists {
		lead := leadingIndex(list)
		if lead <= before || list[lead] != 1 {
			return false
		}
		for k, other := range lists {
			if k != i && other[lead] != 0 {
				return false
			}
		}
		before = lead
	}
	return true
}

// nonzeroRows returns how many rows are not zero.
func nonzeroRows(m impl.Matrix) int {
	n := 0
	for _, row := range m.Rows {
		if leadingIndex(row) >= 0 {
			n++
		}
	}
	return n
}

func rankOf(p int, m impl.Matrix) int {
	reduced, _ := reduceBeside(p, m)
	return nonzeroRows(reduced)
}

// expandDeterminant expands along the first row.
func expandDeterminant(p int, m impl.Matrix) int {
	if len(m.Rows) == 0 {
		return 1
	}
	sum := 0
	for j, element := range m.Rows[0] {
		minor := impl.Matrix{Cols: m.Cols - 1}
		for _, row := range m.Rows[1:] {
			minor.Rows = append(minor.Rows, slices.Concat(row[:j], row[j+1:]))
		}
		term := element * expandDeterminant(p, minor)
		if j%2 == 1 {
			term = -term
		}
		sum += term
	}
	return (sum%p + p) % p
}
