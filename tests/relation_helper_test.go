package tests

import (
	"math/rand/v2"
	"slices"

	"loop.example/g01073/impl"
)

// This file has relations to test with and computations with them that do not use the program.

func relationOf(left, right int, basis ...[]int) impl.Relation {
	return impl.Relation{Left: left, Right: right, Basis: basis}
}

// sameRelation does not tell nil from empty lists.
func sameRelation(a, b impl.Relation) bool {
	return a.Left == b.Left && a.Right == b.Right && slices.EqualFunc(a.Basis, b.Basis, slices.Equal)
}

// pairSpace returns the space of the pairs of r.
func pairSpace(r impl.Relation) impl.Space {
	return impl.Space{Size: r.Left + r.Right, Basis: r.Basis}
}

// generatedBy returns the relation that rows generate.
func generatedBy(p, left, right int, rows [][]int) impl.Relation {
	return relationOf(left, right, spannedBy(p, left+right, rows).Basis...)
}

func wholeRelation(left, right int) impl.Relation {
	return relationOf(left, right, unitMatrix(left+right).Rows...)
}

// equalPairs returns the relation of all pairs of two equal lists.
func equalPairs(n int) impl.Relation {
	return graphRelation(unitMatrix(n))
}

// graphRelation returns the relation of all pairs of a list and its product with m.
func graphRelation(m impl.Matrix) impl.Relation {
	r := relationOf(len(m.Rows), m.Cols)
	for i, row := range unitMatrix(len(m.Rows)).Rows {
		r.Basis = append(r.Basis, slices.Concat(row, m.Rows[i]))
	}
	return r
}

// hasExactly reports whether the Basis is reduced and r has all the pairs, each a list x followed by a list y, and no other.
func hasExactly(p int, r impl.Relation, left, right int, pairs [][]int) bool {
	return r.Left == left && r.Right == right && isReducedList(r.Basis) && keyOf(vectorsOf(p, pairSpace(r))) == keyOf(pairs)
}

// relationsOf returns all relations with these sides.
func relationsOf(p, left, right int) []impl.Relation {
	var relations []impl.Relation
	for _, s := range newSpaceTable(p, left+right).spaces {
		relations = append(relations, relationOf(left, right, s.Basis...))
	}
	return relations
}

// zeros returns a list of n elements 0.
func zeros(n int) []int { return make([]int, n) }

// negated returns the negatives of the elements.
func negated(p int, list []int) []int {
	negatives := []int{}
	for _, x := range list {
		negatives = append(negatives, (p-x)%p)
	}
	return negatives
}

// converseOf, composed, tensored and orthogonalPairs compute with bases what the program is to find.

func converseOf(p int, r impl.Relation) impl.Relation {
	var rows [][]int
	for _, pair := range r.Basis {
		rows = append(rows, slices.Concat(pair[r.Left:], pair[:r.Left]))
	}
	return generatedBy(p, r.Right, r.Left, rows)
}

// composed meets the lists x, y, z with x, y in a and those with y, z in b.
func composed(p int, a, b impl.Relation) impl.Relation {
	size := a.Left + a.Right + b.Right
	units := unitMatrix(size).Rows
	inA, inB := slices.Clone(units[a.Left+a.Right:]), slices.Clone(units[:a.Left])
	for _, pair := range a.Basis {
		inA = append(inA, slices.Concat(pair, zeros(b.Right)))
	}
	for _, pair := range b.Basis {
		inB = append(inB, slices.Concat(zeros(a.Left), pair))
	}
	var rows [][]int
	for _, list := range commonSpace(p, spaceOf(size, inA...), spaceOf(size, inB...)).Basis {
		rows = append(rows, slices.Concat(list[:a.Left], list[a.Left+a.Right:]))
	}
	return generatedBy(p, a.Left, b.Right, rows)
}

func tensored(p int, a, b impl.Relation) impl.Relation {
	var rows [][]int
	for _, pair := range a.Basis {
		rows = append(rows, slices.Concat(pair[:a.Left], zeros(b.Left), pair[a.Left:], zeros(b.Right)))
	}
	for _, pair := range b.Basis {
		rows = append(rows, slices.Concat(zeros(a.Left), pair[:b.Left], zeros(a.Right), pair[b.Left:]))
	}
	return generatedBy(p, a.Left+b.Left, a.Right+b.Right, rows)
}

func orthogonalPairs(p int, r impl.Relation) impl.Relation {
	var rows [][]int
	for _, pair := range r.Basis {
		rows = append(rows, slices.Concat(pair[:r.Left], negated(p, pair[r.Left:])))
	}
	return relationOf(r.Left, r.Right, orthogonalSpace(p, spaceOf(r.Left+r.Right, rows...)).Basis...)
}

// sideRank returns the rank of the elements from..to-1 of the vectors of the Basis.
func sideRank(p int, r impl.Relation, from, to int) int {
	m := impl.Matrix{Cols: to - from}
	for _, pair := range r.Basis {
		m.Rows = append(m.Rows, pair[from:to])
	}
	return rankOf(p, m)
}

func randomRelation(source *rand.Rand, p, left, right int) impl.Relation {
	size := left + right
	switch source.IntN(8) {
	case 0:
		return relationOf(left, right)
	case 1:
		return wholeRelation(left, right)
	case 2:
		return graphRelation(thinMatrix(source, p, left, right))
	case 3:
		return converseOf(p, graphRelation(randomMatrix(source, p, right, left)))
	}
	return relationOf(left, right, randomSpace(source, p, size, source.IntN(size+1)).Basis...)
}

type relationCase struct {
	p int
	r impl.Relation
}

// sidesOfRelations returns numbers of elements of relations, without a side and with most of the elements included.
func sidesOfRelations() [][2]int {
	return [][2]int{{0, 0}, {0, 1}, {1, 0}, {1, 1}, {2, 1}, {1, 3}, {3, 3}, {0, 5}, {6, 2}, {0, maxSide}, {maxSide, 0}, {1, maxSide - 1}, {maxSide - 1, 1}, {12, 12}, {12, 11}, {7, 16}}
}

func relationCases() []relationCase {
	var cases []relationCase
	source := rand.New(rand.NewPCG(4, 35))
	for _, p := range []int{2, 3, 7, 53, 97} {
		for _, sides := range sidesOfRelations() {
			left, right := sides[0], sides[1]
			cases = append(cases, relationCase{p, relationOf(left, right)}, relationCase{p, wholeRelation(left, right)}, relationCase{p, graphRelation(randomMatrix(source, p, left, right))})
			for range 8 {
				cases = append(cases, relationCase{p, randomRelation(source, p, left, right)})
			}
		}
	}
	return cases
}

// chainCase has relations of which each one can be composed with the next one.
type chainCase struct {
	p       int
	a, b, c impl.Relation
}

// chainCases returns chains in which all compositions are valid: any two of the numbers of elements have a sum of at most maxSide.
func chainCases() []chainCase {
	var cases []chainCase
	source := rand.New(rand.NewPCG(4, 1))
	sides := [][4]int{
		{0, 0, 0, 0}, {0, 1, 0, 1}, {1, 0, 1, 0}, {1, 1, 1, 1}, {2, 1, 2, 1}, {1, 3, 2, 2}, {3, 2, 4, 1}, {12, 12, 12, 12}, {0, maxSide, 0, 0}, {maxSide, 0, 0, 0}, {0, 0, 0, maxSide},
		{12, 0, 12, 12}, {12, 12, 0, 12}, {1, maxSide - 1, 1, 1}, {maxSide - 1, 1, 1, 1}, {8, 16, 8, 8}, {5, 0, 7, 0}, {0, 9, 9, 0}, {16, 8, 8, 3},
	}
	for _, p := range []int{2, 3, 5, 53, 97} {
		for _, s := range sides {
			for range 12 {
				cases = append(cases, chainCase{p, randomRelation(source, p, s[0], s[1]), randomRelation(source, p, s[1], s[2]), randomRelation(source, p, s[2], s[3])})
			}
		}
	}
	return cases
}
