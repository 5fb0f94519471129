package tests

import (
	"slices"
	"testing"

	"loop.example/g01073/impl"
)

// This file tests compositions, juxtapositions, converses and orthogonals of relations.

// TestSmallCompositions compares the compositions of all small relations with their definition.
func TestSmallCompositions(t *testing.T) {
	for _, c := range []struct{ p, left, middle, right int }{
		{2, 0, 0, 0}, {2, 1, 0, 1}, {2, 0, 1, 0}, {2, 1, 1, 1}, {3, 1, 1, 1}, {5, 1, 1, 1}, {2, 2, 1, 1}, {2, 1, 1, 2}, {2, 1, 2, 1}, {3, 0, 2, 1}, {3, 1, 2, 0}, {2, 2, 0, 1}, {2, 0, 3, 0}, {3, 1, 2, 1}, {7, 1, 0, 1},
	} {
		seconds := relationsOf(c.p, c.middle, c.right)
		for _, a := range relationsOf(c.p, c.left, c.middle) {
			for _, b := range seconds {
				var pairs [][]int
				for _, ab := range vectorsOf(c.p, pairSpace(a)) {
					for _, bc := range vectorsOf(c.p, pairSpace(b)) {
						if slices.Equal(ab[c.left:], bc[:c.middle]) {
							pairs = append(pairs, slices.Concat(ab[:c.left], bc[c.middle:]))
						}
					}
				}
				if r, ok := impl.ComposeRelations(c.p, a, b); !ok || !hasExactly(c.p, r, c.left, c.right, pairs) {
					t.Fatal("composition", c, a, b, r, ok)
				}
			}
		}
	}
}

func TestSmallTensors(t *testing.T) {
	for _, c := range []struct{ p, left, right, below, beside int }{{2, 0, 0, 0, 0}, {2, 1, 1, 1, 1}, {2, 2, 0, 0, 2}, {2, 1, 0, 1, 1}, {3, 1, 1, 1, 1}, {3, 0, 1, 2, 1}, {5, 1, 0, 0, 1}, {2, 0, 0, 2, 1}, {2, 2, 1, 0, 0}} {
		for _, a := range relationsOf(c.p, c.left, c.right) {
			for _, b := range relationsOf(c.p, c.below, c.beside) {
				var pairs [][]int
				for _, xy := range vectorsOf(c.p, pairSpace(a)) {
					for _, uv := range vectorsOf(c.p, pairSpace(b)) {
						pairs = append(pairs, slices.Concat(xy[:c.left], uv[:c.below], xy[c.left:], uv[c.below:]))
					}
				}
				if r, ok := impl.TensorRelations(c.p, a, b); !ok || !hasExactly(c.p, r, c.left+c.below, c.right+c.beside, pairs) {
					t.Fatal("tensor", c, a, b, r, ok)
				}
			}
		}
	}
}

func TestSmallConversesAndOrthogonals(t *testing.T) {
	for _, c := range smallSides() {
		for _, r := range relationsOf(c.p, c.left, c.right) {
			pairs := vectorsOf(c.p, pairSpace(r))
			var exchanged, orthogonal [][]int
			for _, pair := range pairs {
				exchanged = append(exchanged, slices.Concat(pair[c.left:], pair[:c.left]))
			}
			for _, uv := range argumentLists(elementsOf(c.p), c.left+c.right) {
				differs := func(pair []int) bool {
					return dot(c.p, uv[:c.left], pair[:c.left]) != dot(c.p, uv[c.left:], pair[c.left:])
				}
				if !slices.ContainsFunc(pairs, differs) {
					orthogonal = append(orthogonal, uv)
				}
			}
			if got, ok := impl.ConverseRelation(c.p, r); !ok || !hasExactly(c.p, got, c.right, c.left, exchanged) {
				t.Fatal("converse", c, r, got, ok)
			}
			if got, ok := impl.OrthogonalRelation(c.p, r); !ok || !hasExactly(c.p, got, c.left, c.right, orthogonal) {
				t.Fatal("orthogonal", c, r, got, ok)
			}
		}
	}
}

func TestConversesAndOrthogonals(t *testing.T) {
	for _, c := range relationCases() {
		converse, ok := impl.ConverseRelation(c.p, c.r)
		if back, again := impl.ConverseRelation(c.p, converse); !ok || !again || !sameRelation(converse, converseOf(c.p, c.r)) || !sameRelation(back, c.r) {
			t.Fatal("converse", c, converse, back, ok, again)
		}
		orthogonal, ok := impl.OrthogonalRelation(c.p, c.r)
		if back, again := impl.OrthogonalRelation(c.p, orthogonal); !ok || !again || !sameRelation(orthogonal, orthogonalPairs(c.p, c.r)) || !sameRelation(back, c.r) {
			t.Fatal("orthogonal", c, orthogonal, back, ok, again)
		}
	}
	r := relationOf(1, 1, []int{1, 2})
	want := relationOf(1, 1, []int{1, 3})
	if c, ok := impl.ConverseRelation(5, r); !ok || !sameRelation(c, want) {
		t.Error("converse of the example", c, ok)
	}
	if o, ok := impl.OrthogonalRelation(5, r); !ok || !sameRelation(o, want) {
		t.Error("orthogonal of the example", o, ok)
	}
	if id, ok := impl.ComposeRelations(5, r, want); !ok || !sameRelation(id, equalPairs(1)) {
		t.Error("composition of the example", id, ok)
	}
	for _, bad := range []impl.Relation{relationOf(1, 1, []int{2, 1}), relationOf(-1, 1), relationOf(1, -1), relationOf(13, 12), relationOf(0, 0, nil)} {
		if c, ok := impl.ConverseRelation(5, bad); ok || !sameRelation(c, impl.Relation{}) {
			t.Error("converse", bad, c, ok)
		}
		if o, ok := impl.OrthogonalRelation(5, bad); ok || !sameRelation(o, impl.Relation{}) {
			t.Error("orthogonal", bad, o, ok)
		}
	}
}

// compose composes relations that can be composed.
func compose(t *testing.T, p int, a, b impl.Relation) impl.Relation {
	r, ok := impl.ComposeRelations(p, a, b)
	if !ok || !sameRelation(r, composed(p, a, b)) {
		t.Fatal("composition", p, a, b, r, ok)
	}
	return r
}

// orthogonal returns the orthogonal of a valid relation.
func orthogonal(t *testing.T, p int, r impl.Relation) impl.Relation {
	o, ok := impl.OrthogonalRelation(p, r)
	if !ok {
		t.Fatal("orthogonal", p, r)
	}
	return o
}

func TestRelationsCompose(t *testing.T) {
	for _, c := range chainCases() {
		ab := compose(t, c.p, c.a, c.b)
		if !sameRelation(compose(t, c.p, ab, c.c), compose(t, c.p, c.a, compose(t, c.p, c.b, c.c))) {
			t.Fatal("compositions differ", c)
		}
		if !sameRelation(compose(t, c.p, orthogonal(t, c.p, c.a), orthogonal(t, c.p, c.b)), orthogonal(t, c.p, ab)) {
			t.Fatal("orthogonal of a composition", c)
		}
		if back := compose(t, c.p, converseOf(c.p, c.b), converseOf(c.p, c.a)); !sameRelation(back, converseOf(c.p, ab)) {
			t.Fatal("converse of a composition", c, back)
		}
		if c.a.Left <= 12 && !sameRelation(compose(t, c.p, equalPairs(c.a.Left), c.a), c.a) || c.a.Right <= 12 && !sameRelation(compose(t, c.p, c.a, equalPairs(c.a.Right)), c.a) {
			t.Fatal("composition with an identity", c)
		}
	}
}

// TestFunctionsCompose checks that relations of matrices compose as the matrices do.
func TestFunctionsCompose(t *testing.T) {
	for _, c := range matrixCases() {
		rows, cols := len(c.m.Rows), c.m.Cols
		if rows+cols > maxSide {
			continue
		}
		r, ok := impl.MatrixRelation(c.p, c.m)
		if m, back := impl.FunctionOf(c.p, r); !ok || !back || !sameMatrix(m, c.m) {
			t.Fatal("function of the relation of a matrix", c, m, ok, back)
		}
		other := shiftMatrix(cols, 1)
		if 2*cols > maxSide {
			other = zeroMatrix(cols, 0)
		}
		m, ok := impl.FunctionOf(c.p, compose(t, c.p, r, graphRelation(other)))
		if !ok || !sameMatrix(m, productOf(c.p, c.m, other)) {
			t.Fatal("function of a composition", c, m, ok)
		}
	}
}

func TestCompositionsOfWrongSides(t *testing.T) {
	pairs := [][2]impl.Relation{
		{relationOf(1, 2), relationOf(1, 2)}, {relationOf(1, 0), relationOf(1, 1)}, {relationOf(1, 1), relationOf(0, 1)}, {relationOf(0, 1), relationOf(2, 0)},
		{relationOf(maxSide, 0), relationOf(0, 1)}, {relationOf(1, 0), relationOf(0, maxSide)}, {relationOf(12, 1), relationOf(1, 13)}, {relationOf(13, 11), relationOf(11, 12)}, {wholeRelation(maxSide, 0), wholeRelation(0, maxSide)},
		{relationOf(1, 1, []int{2, 1}), relationOf(1, 1)}, {relationOf(1, 1), relationOf(1, 1, []int{0, 2})}, {relationOf(1, -1), relationOf(-1, 1)}, {relationOf(12, 13), relationOf(13, 1)}, {relationOf(1, 13), relationOf(13, 12)},
	}
	for _, c := range pairs {
		if r, ok := impl.ComposeRelations(5, c[0], c[1]); ok || !sameRelation(r, impl.Relation{}) {
			t.Error("composition", c, r, ok)
		}
	}
	for _, c := range [][2]impl.Relation{{relationOf(maxSide, 0), relationOf(0, 0)}, {relationOf(12, 0), relationOf(0, 12)}, {relationOf(0, maxSide), relationOf(maxSide, 0)}, {wholeRelation(12, 12), wholeRelation(12, 12)}} {
		compose(t, 5, c[0], c[1])
	}
}

func TestTensorsOfRelations(t *testing.T) {
	for _, c := range chainCases() {
		for _, pair := range [][2]impl.Relation{{c.a, c.b}, {c.b, c.a}, {c.a, c.c}, {c.a, c.a}} {
			a, b := pair[0], pair[1]
			fits := a.Left+a.Right+b.Left+b.Right <= maxSide
			want := impl.Relation{}
			if fits {
				want = tensored(c.p, a, b)
			}
			if r, ok := impl.TensorRelations(c.p, a, b); ok != fits || !sameRelation(r, want) {
				t.Fatal("tensor", c.p, a, b, r, ok)
			}
		}
	}
	for _, c := range [][2]impl.Relation{{wholeRelation(6, 6), wholeRelation(6, 6)}, {relationOf(0, maxSide), relationOf(0, 0)}, {equalPairs(0), wholeRelation(maxSide, 0)}, {equalPairs(1), relationOf(11, 11)}} {
		if r, ok := impl.TensorRelations(5, c[0], c[1]); !ok || !sameRelation(r, tensored(5, c[0], c[1])) {
			t.Error("tensor of", c, r, ok)
		}
	}
	for _, c := range [][2]impl.Relation{{wholeRelation(6, 6), wholeRelation(6, 7)}, {relationOf(0, maxSide), relationOf(0, 1)}, {relationOf(0, maxSide), relationOf(1, 0)}, {relationOf(maxSide, 0), relationOf(maxSide, 0)}, {relationOf(1, 1), relationOf(1, 1, []int{2, 0})}, {relationOf(-1, 1), relationOf(1, 1)}, {relationOf(1, 1), relationOf(1, -1)}, {relationOf(13, 12), relationOf(0, 0)}} {
		for _, order := range [][2]int{{0, 1}, {1, 0}} {
			if r, ok := impl.TensorRelations(5, c[order[0]], c[order[1]]); ok || !sameRelation(r, impl.Relation{}) {
				t.Error("tensor of", c, r, ok)
			}
		}
	}
}
