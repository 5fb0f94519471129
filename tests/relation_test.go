package tests

import (
	"math"
	"math/rand/v2"
	"slices"
	"testing"

	"loop.example/g01073/impl"
)

// This file tests which relations are valid, how they are made, and their pairs, domains, ranges and functions.

func TestRelationsAreValid(t *testing.T) {
	for _, c := range relationCases() {
		if !impl.IsRelation(c.p, c.r) {
			t.Fatal("no relation", c)
		}
	}
	for left := -3; left < maxSide+4; left++ {
		for right := -3; right < maxSide+4; right++ {
			valid := left >= 0 && right >= 0 && left+right <= maxSide
			if impl.IsRelation(7, relationOf(left, right)) != valid {
				t.Error("relation without pairs", left, right)
			}
			if left+right > 0 && impl.IsRelation(7, wholeRelation(left, right)) != valid {
				t.Error("relation with all pairs", left, right)
			}
		}
	}
	for p := -10; p <= 200; p++ {
		if impl.IsRelation(p, relationOf(1, 1, []int{1, 0})) != slices.Contains(fields, p) || impl.IsRelation(p, relationOf(0, 0)) != slices.Contains(fields, p) {
			t.Error("relation over", p)
		}
	}
	sides := [][2]int{{math.MaxInt, math.MaxInt}, {math.MaxInt, 1}, {math.MinInt, math.MinInt}, {math.MinInt, math.MaxInt}, {math.MaxInt, math.MinInt + 2}, {1 << 62, 1 << 62}, {-1, 2}, {2, -1}, {-1, 1}, {25, -1}}
	for _, s := range sides {
		for _, basis := range [][][]int{nil, {{}}, {{1}}, {{1, 0}}} {
			if impl.IsRelation(5, relationOf(s[0], s[1], basis...)) {
				t.Error("is a relation", s, basis)
			}
		}
	}
}

func TestInvalidBasesOfRelations(t *testing.T) {
	invalid := []impl.Relation{
		relationOf(0, 0, nil), relationOf(0, 0, []int{1}), relationOf(1, 1, []int{0, 0}), relationOf(1, 1, []int{2, 1}), relationOf(1, 1, []int{1}), relationOf(1, 1, []int{1, 0, 0}),
		relationOf(1, 1, []int{1, 5}), relationOf(1, 1, []int{1, -1}), relationOf(1, 1, []int{0, 1}, []int{1, 0}), relationOf(1, 1, []int{1, 1}, []int{0, 1}), relationOf(1, 1, []int{1, 0}, []int{1, 0}),
		relationOf(1, 0, []int{3}), relationOf(0, 1, []int{3}), relationOf(2, 1, []int{1, 0, 0}, []int{0, 0, 1}, []int{0, 1, 0}), relationOf(1, 1, []int{1, 0}, []int{0, 1}, []int{0, 0}),
	}
	for _, r := range invalid {
		if impl.IsRelation(5, r) {
			t.Error("is a relation", r)
		}
	}
}

func TestGeneratedRelations(t *testing.T) {
	source := rand.New(rand.NewPCG(4, 2))
	for _, p := range []int{2, 5, 97} {
		for _, sides := range sidesOfRelations() {
			for _, n := range []int{0, 1, 2, maxSide, maxSide + 1, 47, 48} {
				rows := thinMatrix(source, p, n, sides[0]+sides[1]).Rows
				want := generatedBy(p, sides[0], sides[1], rows)
				if r, ok := impl.RelationFrom(p, sides[0], sides[1], rows); !ok || !sameRelation(r, want) {
					t.Fatal("generated relation", p, sides, rows, r, ok)
				}
			}
		}
	}
	for _, c := range []struct {
		p, left, right int
		rows           [][]int
	}{
		{5, 1, 1, zeroMatrix(49, 2).Rows}, {5, 0, 0, zeroMatrix(49, 0).Rows}, {5, -1, 2, [][]int{{1}}}, {5, 2, -1, [][]int{{1}}}, {5, -1, 1, nil}, {5, -1, -1, nil}, {4, 1, 1, nil}, {98, 0, 0, nil},
		{5, 12, 13, nil}, {5, 0, maxSide + 1, nil}, {5, maxSide + 1, 0, nil}, {5, 13, 12, zeroMatrix(1, maxSide+1).Rows}, {5, math.MaxInt, math.MaxInt, nil}, {5, math.MinInt, math.MinInt, nil},
		{5, 1, 1, [][]int{{1}}}, {5, 1, 1, [][]int{{1, 2, 3}}}, {5, 1, 1, [][]int{{1, 2}, nil}}, {5, 1, 1, [][]int{{1, 5}}}, {5, 1, 1, [][]int{{-1, 1}}}, {5, 0, 0, [][]int{{0}}}, {5, 1, 0, [][]int{{}}},
	} {
		if r, ok := impl.RelationFrom(c.p, c.left, c.right, c.rows); ok || !sameRelation(r, impl.Relation{}) {
			t.Error("relation of invalid rows", c, r, ok)
		}
	}
}

func TestIdentityRelations(t *testing.T) {
	for n := range 13 {
		if r, ok := impl.IdentityRelation(n); !ok || !sameRelation(r, equalPairs(n)) {
			t.Error("identity", n, r, ok)
		}
	}
	for _, n := range []int{13, 14, maxSide, maxSide + 1, -1, -12, math.MaxInt, math.MinInt, 1 << 62} {
		if r, ok := impl.IdentityRelation(n); ok || !sameRelation(r, impl.Relation{}) {
			t.Error("identity", n, r, ok)
		}
	}
}

func TestRelationsOfMatrices(t *testing.T) {
	for _, c := range matrixCases() {
		want := impl.Relation{}
		fits := len(c.m.Rows)+c.m.Cols <= maxSide
		if fits {
			want = graphRelation(c.m)
		}
		if r, ok := impl.MatrixRelation(c.p, c.m); ok != fits || !sameRelation(r, want) {
			t.Fatal("relation of a matrix", c, r, ok)
		}
	}
	for _, sides := range [][2]int{{12, 12}, {maxSide, 0}, {0, maxSide}, {1, maxSide - 1}} {
		m := zeroMatrix(sides[0], sides[1])
		if r, ok := impl.MatrixRelation(5, m); !ok || !sameRelation(r, graphRelation(m)) {
			t.Error("relation of a matrix with the sides", sides, r, ok)
		}
	}
	for _, sides := range [][2]int{{12, 13}, {13, 12}, {1, maxSide}, {maxSide, 1}, {maxSide + 1, 0}, {0, maxSide + 1}, {maxSide, maxSide}} {
		if r, ok := impl.MatrixRelation(5, zeroMatrix(sides[0], sides[1])); ok || !sameRelation(r, impl.Relation{}) {
			t.Error("relation of a matrix with the sides", sides, r, ok)
		}
	}
	for _, m := range []impl.Matrix{matrixOf(2, []int{1}), matrixOf(1, []int{5}), matrixOf(1, []int{-1}), matrixOf(-1), matrixOf(2, []int{1, 0}, nil)} {
		if r, ok := impl.MatrixRelation(5, m); ok || !sameRelation(r, impl.Relation{}) {
			t.Error("relation of an invalid matrix", m, r, ok)
		}
	}
}

// TestPairsOfSmallRelations compares what is found about a relation with the list of all its pairs.
func TestPairsOfSmallRelations(t *testing.T) {
	for _, c := range smallSides() {
		for _, r := range relationsOf(c.p, c.left, c.right) {
			pairs := vectorsOf(c.p, pairSpace(r))
			for _, v := range argumentLists(elementsOf(c.p), c.left+c.right) {
				if is, ok := impl.HasPair(c.p, r, v[:c.left], v[c.left:]); !ok || is != hasList(pairs, v) {
					t.Fatal("pair", c, r, v, is, ok)
				}
			}
			var firsts, seconds [][]int
			for _, pair := range pairs {
				firsts, seconds = append(firsts, pair[:c.left]), append(seconds, pair[c.left:])
			}
			domain, ok := impl.DomainOf(c.p, r)
			if !ok || domain.Size != c.left || !isReducedList(domain.Basis) || keyOf(vectorsOf(c.p, domain)) != keyOf(firsts) {
				t.Fatal("domain", c, r, domain, ok)
			}
			image, ok := impl.RangeOf(c.p, r)
			if !ok || image.Size != c.right || !isReducedList(image.Basis) || keyOf(vectorsOf(c.p, image)) != keyOf(seconds) {
				t.Fatal("range", c, r, image, ok)
			}
			checkFunction(t, c.p, r, firsts, seconds)
		}
	}
}

// smallSides returns sides of which all relations are tested.
func smallSides() []struct{ p, left, right int } {
	return []struct{ p, left, right int }{{2, 0, 0}, {97, 0, 0}, {2, 0, 1}, {3, 1, 0}, {7, 0, 1}, {7, 1, 0}, {2, 1, 1}, {3, 1, 1}, {5, 1, 1}, {3, 0, 2}, {5, 2, 0}, {2, 1, 2}, {2, 2, 1}, {3, 1, 2}, {3, 2, 1}, {2, 3, 0}, {2, 0, 3}}
}

// checkFunction compares totality, single values and the function of r with its pairs.
func checkFunction(t *testing.T, p int, r impl.Relation, firsts, seconds [][]int) {
	total, single := true, true
	for _, x := range argumentLists(elementsOf(p), r.Left) {
		found := 0
		for _, first := range firsts {
			if slices.Equal(x, first) {
				found++
			}
		}
		total, single = total && found > 0, single && found < 2
	}
	if is, ok := impl.IsTotal(p, r); !ok || is != total {
		t.Fatal("total", p, r, is, ok)
	}
	if is, ok := impl.IsSingleValued(p, r); !ok || is != single {
		t.Fatal("single-valued", p, r, is, ok)
	}
	m, ok := impl.FunctionOf(p, r)
	if ok != (total && single) {
		t.Fatal("function", p, r, m, ok)
	}
	if !ok {
		if !sameMatrix(m, impl.Matrix{}) {
			t.Fatal("matrix of no function", p, r, m)
		}
		return
	}
	if m.Cols != r.Right || len(m.Rows) != r.Left {
		t.Fatal("size of the function", p, r, m)
	}
	for i, x := range firsts {
		if !slices.Equal(listTimes(p, x, m), seconds[i]) {
			t.Fatal("value of the function", p, r, m, x)
		}
	}
}

func TestPairsOfRelations(t *testing.T) {
	source := rand.New(rand.NewPCG(4, 3))
	for _, c := range relationCases() {
		size := c.r.Left + c.r.Right
		basis := impl.Matrix{Cols: size, Rows: c.r.Basis}
		inside := listTimes(c.p, randomList(source, c.p, len(c.r.Basis)), basis)
		for _, v := range [][]int{inside, zeros(size), randomList(source, c.p, size)} {
			want := rankOf(c.p, impl.Matrix{Cols: size, Rows: slices.Concat(c.r.Basis, [][]int{v})}) == len(c.r.Basis)
			if is, ok := impl.HasPair(c.p, c.r, v[:c.r.Left], v[c.r.Left:]); !ok || is != want {
				t.Fatal("pair", c, v, is, ok)
			}
		}
		var firsts, seconds [][]int
		for _, pair := range c.r.Basis {
			firsts, seconds = append(firsts, pair[:c.r.Left]), append(seconds, pair[c.r.Left:])
		}
		if s, ok := impl.DomainOf(c.p, c.r); !ok || !sameSpace(s, spannedBy(c.p, c.r.Left, firsts)) {
			t.Fatal("domain", c, s, ok)
		}
		if s, ok := impl.RangeOf(c.p, c.r); !ok || !sameSpace(s, spannedBy(c.p, c.r.Right, seconds)) {
			t.Fatal("range", c, s, ok)
		}
		rank := sideRank(c.p, c.r, 0, c.r.Left)
		total, single := rank == c.r.Left, rank == len(c.r.Basis)
		if is, ok := impl.IsTotal(c.p, c.r); !ok || is != total {
			t.Fatal("total", c, is, ok)
		}
		if is, ok := impl.IsSingleValued(c.p, c.r); !ok || is != single {
			t.Fatal("single-valued", c, is, ok)
		}
		m, ok := impl.FunctionOf(c.p, c.r)
		if ok != (total && single) || ok && !sameRelation(graphRelation(m), c.r) || !ok && !sameMatrix(m, impl.Matrix{}) {
			t.Fatal("function", c, m, ok)
		}
	}
}

func TestPairsOfWrongSizes(t *testing.T) {
	r := relationOf(1, 2, []int{1, 0, 3})
	for _, c := range [][2][]int{{{}, {0, 0}}, {{0}, {0}}, {{0, 0}, {0}}, {{0, 0, 0}, nil}, {nil, {0, 0, 0}}, {{5}, {0, 0}}, {{-1}, {0, 0}}, {{1}, {0, 5}}, {{1}, {-2, 3}}, {{0}, make([]int, 30)}} {
		if is, ok := impl.HasPair(5, r, c[0], c[1]); is || ok {
			t.Error("pair", c, is, ok)
		}
	}
	for _, bad := range []impl.Relation{relationOf(1, 1, []int{2, 1}), relationOf(-1, 2), relationOf(12, 13)} {
		if is, ok := impl.HasPair(5, bad, []int{0}, []int{0}); is || ok {
			t.Error("pair of", bad, is, ok)
		}
	}
	if is, ok := impl.HasPair(5, relationOf(0, 0), nil, nil); !is || !ok {
		t.Error("the pair without elements", is, ok)
	}
}

func TestIncludedRelations(t *testing.T) {
	for _, c := range smallSides() {
		relations := relationsOf(c.p, c.left, c.right)
		for _, a := range relations {
			pairs := vectorsOf(c.p, pairSpace(a))
			for _, b := range relations {
				want := !slices.ContainsFunc(vectorsOf(c.p, pairSpace(b)), func(pair []int) bool { return !hasList(pairs, pair) })
				if is, ok := impl.IncludesRelation(c.p, a, b); !ok || is != want {
					t.Fatal("inclusion", c, a, b, is, ok)
				}
			}
		}
	}
	for _, c := range spacePairs() {
		for _, left := range []int{0, c.a.Size / 2, c.a.Size} {
			a, b := relationOf(left, c.a.Size-left, c.a.Basis...), relationOf(left, c.a.Size-left, c.b.Basis...)
			want := rankOf(c.p, impl.Matrix{Cols: c.a.Size, Rows: stacked(c.a, c.b)}) == len(a.Basis)
			if is, ok := impl.IncludesRelation(c.p, a, b); !ok || is != want {
				t.Fatal("inclusion", c, left, is, ok)
			}
		}
	}
	for _, c := range [][2]impl.Relation{{relationOf(1, 2), relationOf(2, 1)}, {relationOf(1, 1), relationOf(1, 2)}, {relationOf(0, 1), relationOf(1, 1)}, {relationOf(1, 0), relationOf(0, 1)}, {relationOf(1, 1), relationOf(1, 1, []int{2, 0})}, {relationOf(13, 12), relationOf(13, 12)}} {
		for _, order := range [][2]int{{0, 1}, {1, 0}} {
			if is, ok := impl.IncludesRelation(5, c[order[0]], c[order[1]]); is || ok {
				t.Error("inclusion", c, is, ok)
			}
		}
	}
}
