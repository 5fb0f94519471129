package tests

import (
	"fmt"
	"math/rand/v2"
	"slices"

	"loop.example/g01073/impl"
)

// This file has spaces to test with and computations with them that do not use the program.

func spaceOf(size int, basis ...[]int) impl.Space {
	return impl.Space{Size: size, Basis: basis}
}

// sameSpace does not tell nil from empty lists.
func sameSpace(a, b impl.Space) bool {
	return a.Size == b.Size && slices.EqualFunc(a.Basis, b.Basis, slices.Equal)
}

// wholeSpace returns the space of all vectors of a size.
func wholeSpace(size int) impl.Space {
	return impl.Space{Size: size, Basis: unitMatrix(size).Rows}
}

// spannedBy returns the space that rows span.
func spannedBy(p, size int, rows [][]int) impl.Space {
	reduced, _ := reduceBeside(p, impl.Matrix{Cols: size, Rows: rows})
	return impl.Space{Size: size, Basis: reduced.Rows[:nonzeroRows(reduced)]}
}

// kernelRows returns lists that span all x whose product with the rows is zero.
func kernelRows(p, cols int, rows [][]int) [][]int {
	reduced, transform := reduceBeside(p, impl.Matrix{Cols: cols, Rows: rows})
	return transform.Rows[nonzeroRows(reduced):]
}

func randomSpace(source *rand.Rand, p, size, rows int) impl.Space {
	if source.IntN(2) == 0 {
		return spannedBy(p, size, thinMatrix(source, p, rows, size).Rows)
	}
	return spannedBy(p, size, randomMatrix(source, p, rows, size).Rows)
}

// dot returns the product of two vectors.
func dot(p int, v, w []int) int {
	sum := 0
	for i, x := range v {
		sum += x * w[i]
	}
	return sum % p
}

// vectorsOf returns all vectors of a space.
func vectorsOf(p int, s impl.Space) [][]int {
	var vectors [][]int
	for _, x := range argumentLists(elementsOf(p), len(s.Basis)) {
		vectors = append(vectors, listTimes(p, x, impl.Matrix{Cols: s.Size, Rows: s.Basis}))
	}
	return vectors
}

// spaceTable has all spaces of a size over p, with the vectors of each.
type spaceTable struct {
	p, size int
	spaces  []impl.Space
	byKey   map[string]impl.Space
}

// keyOf returns a text for a set of vectors.
func keyOf(vectors [][]int) string {
	sorted := slices.SortedFunc(slices.Values(vectors), slices.Compare)
	return fmt.Sprint(slices.CompactFunc(sorted, slices.Equal))
}

// newSpaceTable looks for reduced lists among all lists of vectors.
func newSpaceTable(p, size int) spaceTable {
	table := spaceTable{p: p, size: size, byKey: map[string]impl.Space{}}
	vectors := argumentLists(elementsOf(p), size)
	for n := range size + 1 {
		for _, indices := range argumentLists(elementsOf(len(vectors)), n) {
			s := impl.Space{Size: size}
			for _, index := range indices {
				s.Basis = append(s.Basis, vectors[index])
			}
			if isReducedList(s.Basis) {
				table.spaces = append(table.spaces, s)
				table.byKey[keyOf(vectorsOf(p, s))] = s
			}
		}
	}
	return table
}

// with returns the space that has exactly these vectors, each at least once.
func (table spaceTable) with(vectors [][]int) impl.Space {
	s, found := table.byKey[keyOf(vectors)]
	if !found {
		panic("no space has these vectors")
	}
	return s
}

// where returns the space of the vectors that are kept.
func (table spaceTable) where(keep func(v []int) bool) impl.Space {
	var kept [][]int
	for _, v := range argumentLists(elementsOf(table.p), table.size) {
		if keep(v) {
			kept = append(kept, v)
		}
	}
	return table.with(kept)
}

func hasList(lists [][]int, list []int) bool {
	return slices.ContainsFunc(lists, func(other []int) bool { return slices.Equal(list, other) })
}

// spaceTables returns the tables of small sizes.
func spaceTables() []spaceTable {
	var tables []spaceTable
	for _, c := range []struct{ p, size int }{{2, 0}, {97, 0}, {2, 1}, {7, 1}, {2, 2}, {3, 2}, {5, 2}, {2, 3}, {3, 3}} {
		tables = append(tables, newSpaceTable(c.p, c.size))
	}
	return tables
}

type spacePair struct {
	p    int
	a, b impl.Space
}

// spacePairs returns pairs of spaces of equal sizes, of which some are empty, whole, equal or included in each other.
func spacePairs() []spacePair {
	var pairs []spacePair
	source := rand.New(rand.NewPCG(3, 35))
	for _, p := range []int{2, 3, 7, 53, 97} {
		for _, size := range []int{0, 1, 2, 3, 4, 6, 11, maxSide - 1, maxSide} {
			for range 4 {
				a, b := randomSpace(source, p, size, source.IntN(size+1)), randomSpace(source, p, size, source.IntN(size+1))
				included := spannedBy(p, size, productOf(p, randomMatrix(source, p, 2, len(a.Basis)), impl.Matrix{Cols: size, Rows: a.Basis}).Rows)
				pairs = append(pairs, spacePair{p, a, b}, spacePair{p, a, included}, spacePair{p, included, a})
			}
			a := randomSpace(source, p, size, (size+1)/2)
			pairs = append(pairs, spacePair{p, a, a}, spacePair{p, a, spaceOf(size)}, spacePair{p, spaceOf(size), a},
				spacePair{p, a, wholeSpace(size)}, spacePair{p, wholeSpace(size), a}, spacePair{p, wholeSpace(size), wholeSpace(size)})
		}
	}
	return pairs
}

// stacked returns the rows of both lists.
func stacked(p impl.Space, q impl.Space) [][]int {
	return slices.Concat(p.Basis, q.Basis)
}

// commonSpace returns the meet of two spaces: where two combinations of their bases have the sum zero, the first of them is in both.
func commonSpace(p int, a, b impl.Space) impl.Space {
	var rows [][]int
	for _, x := range kernelRows(p, a.Size, stacked(a, b)) {
		rows = append(rows, listTimes(p, x[:len(a.Basis)], impl.Matrix{Cols: a.Size, Rows: a.Basis}))
	}
	return spannedBy(p, a.Size, rows)
}

// orthogonalSpace returns the orthogonal of s as the kernel of the matrix with the vectors of its Basis as columns.
func orthogonalSpace(p int, s impl.Space) impl.Space {
	columns := zeroMatrix(s.Size, len(s.Basis))
	for i, b := range s.Basis {
		for j, x := range b {
			columns.Rows[j][i] = x
		}
	}
	return spannedBy(p, s.Size, kernelRows(p, len(s.Basis), columns.Rows))
}

// sourceSpace returns the preimage of s under m: the beginnings of the lists whose product with m above the Basis is zero.
func sourceSpace(p int, s impl.Space, m impl.Matrix) impl.Space {
	var rows [][]int
	for _, x := range kernelRows(p, s.Size, slices.Concat(m.Rows, s.Basis)) {
		rows = append(rows, x[:len(m.Rows)])
	}
	return spannedBy(p, len(m.Rows), rows)
}
