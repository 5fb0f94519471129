package tests

import (
	"math/rand/v2"
	"slices"
	"testing"

	"loop.example/g01073/impl"
)

// This file tests P8 for terms.

// isLeafPair follows the definition of the relation of a leaf over p.
func isLeafPair(p int, n impl.Node, x, y []int) bool {
	if n.Kind >= impl.TmCocopy {
		n.Kind = mirrorKinds[n.Kind]
		return isLeafPair(p, n, y, x)
	}
	switch n.Kind {
	case impl.TmId:
		return slices.Equal(x, y)
	case impl.TmSwap:
		return x[0] == y[1] && x[1] == y[0]
	case impl.TmCopy:
		return x[0] == y[0] && x[0] == y[1]
	case impl.TmAdd:
		return (x[0]+x[1])%p == y[0]
	case impl.TmZero:
		return y[0] == 0
	case impl.TmScale:
		return n.Value*x[0]%p == y[0]
	}
	return n.Kind == impl.TmDiscard
}

// pairsOfTree returns all pairs of the relation of a small tree, each one as a list x followed by a list y.
func pairsOfTree(p int, x tree) [][]int {
	var pairs [][]int
	if !isJoint(x.node.Kind) {
		for _, pair := range argumentLists(elementsOf(p), x.in+x.out) {
			if isLeafPair(p, x.node, pair[:x.in], pair[x.in:]) {
				pairs = append(pairs, pair)
			}
		}
		return pairs
	}
	a, b := x.parts[0], x.parts[1]
	for _, first := range pairsOfTree(p, a) {
		for _, second := range pairsOfTree(p, b) {
			if x.node.Kind == impl.TmPar {
				pairs = append(pairs, slices.Concat(first[:a.in], second[:b.in], first[a.in:], second[b.in:]))
			} else if slices.Equal(first[a.in:], second[:b.in]) {
				pairs = append(pairs, slices.Concat(first[:a.in], second[b.in:]))
			}
		}
	}
	return pairs
}

func hasDelay(x impl.Term) bool {
	return slices.ContainsFunc(x.Nodes, func(n impl.Node) bool { return isDelayKind(n.Kind) })
}

// withoutDelays returns a term over p with multiplications by p-1 in place of delays.
func withoutDelays(p int, x impl.Term) impl.Term {
	nodes := slices.Clone(x.Nodes)
	for i, n := range nodes {
		if isDelayKind(n.Kind) {
			nodes[i] = impl.Node{Kind: n.Kind - impl.TmDelay + impl.TmScale, Value: p - 1}
		}
	}
	return impl.Term{Nodes: nodes}
}

// staticCases returns terms of many sizes and types without delays.
func staticCases() []termCase {
	var cases []termCase
	for _, c := range slices.Concat(termCases(), denotationCases()) {
		cases = append(cases, termCase{c.p, withoutDelays(c.p, c.t)})
	}
	for _, p := range []int{53, 97} {
		for in := range 4 {
			source := rand.New(rand.NewPCG(8, uint64(in)))
			for range 6 {
				cases = append(cases, termCase{p, withoutDelays(p, randomTerm(source, p, in, 4))})
			}
		}
	}
	return cases
}

// relationOfTerm returns the relation of a term over p without delays.
func relationOfTerm(t *testing.T, p int, x impl.Term) impl.Relation {
	t.Helper()
	r, ok := impl.DenoteTerm(p, x)
	if !ok {
		t.Fatal("no relation", p, x)
	}
	return r
}

func TestRelationsOfLeaves(t *testing.T) {
	for _, p := range []int{2, 3, 5, 7} {
		for _, n := range nodesOfKinds() {
			x := termWith(n)
			valid := isTermOver(p, x) && !hasDelay(x)
			r, ok := impl.LeafRelation(p, n)
			if ok != valid || !ok && !sameRelation(r, impl.Relation{}) {
				t.Fatal("relation of the leaf", p, n, r, ok)
			}
			if !ok {
				continue
			}
			if whole := validTree(x); whole.in+whole.out > 4 {
				if !sameRelation(r, equalPairs(whole.in)) {
					t.Error("relation of the leaf", p, n, r)
				}
			} else if !hasExactly(p, r, whole.in, whole.out, pairsOfTree(p, whole)) {
				t.Error("relation of the leaf", p, n, r)
			}
			if same := relationOfTerm(t, p, x); !sameRelation(same, r) {
				t.Error("relations of a leaf and of its term", p, n, r, same)
			}
		}
	}
	for factor := range 97 {
		if r, ok := impl.LeafRelation(97, impl.Node{Kind: impl.TmScale, Value: factor}); !ok || !sameRelation(r, relationOf(1, 1, []int{1, factor})) {
			t.Error("relation of scale", factor, r, ok)
		}
		if r, ok := impl.LeafRelation(97, impl.Node{Kind: impl.TmCoscale, Value: factor}); !ok || !sameRelation(r, generatedBy(97, 1, 1, [][]int{{factor, 1}})) {
			t.Error("relation of coscale", factor, r, ok)
		}
	}
}

// TestRelationsOfSmallTerms compares the relations of all small terms with their sets of pairs.
func TestRelationsOfSmallTerms(t *testing.T) {
	for _, p := range []int{2, 3} {
		for _, x := range smallTerms(p) {
			x = withoutDelays(p, x)
			whole := validTree(x)
			pairs := pairsOfTree(p, whole)
			r := relationOfTerm(t, p, x)
			if !hasExactly(p, r, whole.in, whole.out, pairs) {
				t.Fatal("relation", p, x, r)
			}
			if n, ok := impl.DimensionOf(p, x); !ok || n != len(r.Basis) {
				t.Fatal("dimension", p, x, n, ok)
			}
		}
	}
}

func TestRelationsOfTerms(t *testing.T) {
	for _, c := range staticCases() {
		want := denoted(c.p, c.t)
		if r := relationOfTerm(t, c.p, c.t); !sameRelation(r, want) {
			t.Fatal("relation", c, r, "not", want)
		}
		if n, ok := impl.DimensionOf(c.p, c.t); !ok || n != len(want.Basis) {
			t.Fatal("dimension", c, n, ok)
		}
	}
	if r := relationOfTerm(t, 2, chainTerm(200, idTerm(12))); !sameRelation(r, equalPairs(12)) {
		t.Error("relation of a long chain", r)
	}
	if r := relationOfTerm(t, 97, chainTerm(200, scaleTerm(5))); !sameRelation(r, relationOf(1, 1, []int{1, powersOf(97, 5, 201)[200]})) {
		t.Error("relation of a long product", r)
	}
}

// TestJoinedRelations checks that the relations of compositions and juxtapositions are those of the relations of their parts.
func TestJoinedRelations(t *testing.T) {
	cases := staticCases()
	for i, c := range cases {
		r := relationOfTerm(t, c.p, c.t)
		for _, step := range []int{0, 1, 7, 64} {
			other := cases[(i+step)%len(cases)].t
			if !isTermOver(c.p, other) {
				continue
			}
			s := relationOfTerm(t, c.p, other)
			if seq, ok := impl.SeqTerm(c.t, other); ok {
				want, isRelation := impl.ComposeRelations(c.p, r, s)
				if got := relationOfTerm(t, c.p, seq); !isRelation || !sameRelation(got, want) {
					t.Fatal("relation of a composition", c, other, got, want, isRelation)
				}
			}
			if par, ok := impl.ParTerm(c.t, other); ok {
				want, isRelation := impl.TensorRelations(c.p, r, s)
				if got := relationOfTerm(t, c.p, par); !isRelation || !sameRelation(got, want) {
					t.Fatal("relation of a juxtaposition", c, other, got, want, isRelation)
				}
			}
		}
		mirror := relationOfTerm(t, c.p, mirrorOf(t, c.t))
		if want, ok := impl.ConverseRelation(c.p, r); !ok || !sameRelation(mirror, want) {
			t.Fatal("relation of a mirror image", c, mirror, want, ok)
		}
	}
}

// TestTermsWithoutWires has terms of the type 0 -> 0, which have one relation.
func TestTermsWithoutWires(t *testing.T) {
	zero := seqOf(leafTerm(impl.TmZero), leafTerm(impl.TmDiscard))
	terms := []impl.Term{idTerm(0), zero, parOf(idTerm(0), idTerm(0)), seqOf(leafTerm(impl.TmCodiscard), scaleTerm(0), leafTerm(impl.TmCozero)), seqOf(leafTerm(impl.TmZero), leafTerm(impl.TmCozero)), parOf(zero, zero), chainTerm(200, idTerm(0))}
	for _, a := range terms {
		if r := relationOfTerm(t, 5, a); !sameRelation(r, relationOf(0, 0)) {
			t.Error("relation without wires", a, r)
		}
		if m, ok := impl.MatrixOfTerm(5, a); !ok || !sameMatrix(m, impl.Matrix{}) {
			t.Error("matrix without wires", a, m, ok)
		}
		if n, ok := impl.DimensionOf(5, a); n != 0 || !ok {
			t.Error("dimension without wires", a, n, ok)
		}
		for _, b := range terms {
			checkCompared(t, 5, a, b)
		}
	}
	if is, ok := impl.EqualTerms(5, idTerm(0), zero); !is || !ok {
		t.Error("terms without wires differ", is, ok)
	}
}

// isIn reports whether a list is in the space that a basis spans.
func isIn(p int, basis [][]int, list []int) bool {
	return len(spannedBy(p, len(list), append(slices.Clone(basis), list)).Basis) == len(basis)
}

// checkCompared checks what is said of the relations of two terms over p without delays.
func checkCompared(t *testing.T, p int, a, b impl.Term) {
	t.Helper()
	r, s := denoted(p, a), denoted(p, b)
	fits := r.Left == s.Left && r.Right == s.Right
	at := -1
	if fits {
		at = slices.IndexFunc(r.Basis, func(list []int) bool { return !isIn(p, s.Basis, list) })
	}
	if is, ok := impl.IncludedTerms(p, a, b); ok != fits || is != (fits && at < 0) {
		t.Fatal("included terms", p, a, b, is, ok)
	}
	if is, ok := impl.EqualTerms(p, a, b); ok != fits || is != (fits && sameRelation(r, s)) {
		t.Fatal("equal terms", p, a, b, is, ok)
	}
	x, y, ok := impl.MissingPair(p, a, b)
	if ok != (at >= 0) || !ok && len(x)+len(y) > 0 {
		t.Fatal("missing pair", p, a, b, x, y, ok)
	}
	if ok && (!slices.Equal(x, r.Basis[at][:r.Left]) || !slices.Equal(y, r.Basis[at][r.Left:])) {
		t.Fatal("missing pair", p, a, b, x, y)
	}
}

func TestComparedTerms(t *testing.T) {
	for _, p := range []int{2, 5} {
		groups := map[[2]int][]impl.Term{}
		for _, x := range smallTerms(p) {
			whole := validTree(x)
			key := [2]int{whole.in, whole.out}
			groups[key] = append(groups[key], withoutDelays(p, x))
		}
		for _, group := range groups {
			for i, a := range group {
				for j := i % 7; j < len(group); j += 7 {
					checkCompared(t, p, a, group[j])
				}
				checkCompared(t, p, a, leafTerm(impl.TmCopy))
			}
		}
	}
	for _, c := range staticCases() {
		whole := validTree(c.t)
		checkCompared(t, c.p, c.t, c.t)
		if same := seqOf(c.t, mirrorOf(t, c.t), c.t); isValidTerm(same) {
			checkCompared(t, c.p, c.t, same)
		}
		for _, other := range []impl.Term{nothingTerm(whole.in, whole.out), anythingTerm(whole.in, whole.out)} {
			checkCompared(t, c.p, c.t, other)
			checkCompared(t, c.p, other, c.t)
		}
	}
}

// repeated returns the juxtaposition of n copies of a leaf.
func repeated(n, kind int) impl.Term {
	return parOf(append([]impl.Term{idTerm(0)}, slices.Repeat([]impl.Term{leafTerm(kind)}, n)...)...)
}

// nothingTerm returns a term n -> m that has the pair of zero lists alone.
func nothingTerm(n, m int) impl.Term {
	return seqOf(repeated(n, impl.TmCozero), repeated(m, impl.TmZero))
}

// anythingTerm returns a term n -> m that has all pairs.
func anythingTerm(n, m int) impl.Term {
	return seqOf(repeated(n, impl.TmDiscard), repeated(m, impl.TmCodiscard))
}

func TestExamplesOfMissingPairs(t *testing.T) {
	copies, zero := leafTerm(impl.TmCopy), leafTerm(impl.TmZero)
	double := seqOf(copies, leafTerm(impl.TmAdd))
	nothing := seqOf(leafTerm(impl.TmDiscard), zero)
	for _, c := range []struct {
		a, b impl.Term
		x, y []int
	}{
		{double, seqOf(copies, parOf(idTerm(1), scaleTerm(4)), leafTerm(impl.TmAdd)), []int{1}, []int{2}},
		// The first list of the basis is missing, or the second one, or both are.
		{idTerm(2), parOf(nothing, idTerm(1)), []int{1, 0}, []int{1, 0}}, {idTerm(2), parOf(idTerm(1), nothing), []int{0, 1}, []int{0, 1}}, {idTerm(2), nothingTerm(2, 2), []int{1, 0}, []int{1, 0}},
		{anythingTerm(1, 1), idTerm(1), []int{1}, []int{0}}, {anythingTerm(1, 1), nothing, []int{0}, []int{1}}, {leafTerm(impl.TmDiscard), leafTerm(impl.TmCozero), []int{1}, nil}, {leafTerm(impl.TmCodiscard), zero, nil, []int{1}},
		{anythingTerm(12, 12), parOf(slices.Concat([]impl.Term{anythingTerm(11, 11)}, []impl.Term{leafTerm(impl.TmDiscard), zero})...), append(zeros(11), 0), append(zeros(11), 1)},
	} {
		if x, y, ok := impl.MissingPair(5, c.a, c.b); !ok || !slices.Equal(x, c.x) || !slices.Equal(y, c.y) {
			t.Error("missing pair", c, x, y, ok)
		}
		if x, y, ok := impl.MissingPair(5, c.a, c.a); ok || len(x)+len(y) > 0 {
			t.Error("a pair that is missing in the term itself", c, x, y, ok)
		}
		if is, ok := impl.IncludedTerms(5, c.a, c.b); is || !ok {
			t.Error("included terms", c, is, ok)
		}
		if is, ok := impl.IncludedTerms(5, nothingTerm(len(c.x), len(c.y)), c.b); !is || !ok {
			t.Error("the pair of zero lists is not included", c, is, ok)
		}
	}
	// Each of two terms may have pairs that the other one has not, and terms of different types are not compared.
	for _, pair := range [][2]impl.Term{{idTerm(1), double}, {idTerm(1), idTerm(2)}, {copies, leafTerm(impl.TmAdd)}, {idTerm(0), zero}, {leafTerm(impl.TmDiscard), zero}, {copies, anythingTerm(2, 1)}, {anythingTerm(3, 0), anythingTerm(0, 3)}, {anythingTerm(12, 12), anythingTerm(12, 11)}} {
		checkCompared(t, 5, pair[0], pair[1])
		checkCompared(t, 5, pair[1], pair[0])
	}
}

func TestMatricesOfTerms(t *testing.T) {
	for _, c := range staticCases() {
		r := denoted(c.p, c.t)
		inputs := sideRank(c.p, r, 0, r.Left)
		isFunction := inputs == r.Left && inputs == len(r.Basis)
		want := impl.Matrix{}
		if isFunction {
			want.Cols = r.Right
			for _, pair := range r.Basis {
				want.Rows = append(want.Rows, pair[r.Left:])
			}
		}
		if m, ok := impl.MatrixOfTerm(c.p, c.t); ok != isFunction || !sameMatrix(m, want) {
			t.Fatal("matrix", c, m, ok, "not", want, isFunction)
		}
	}
	for _, c := range []struct {
		t  impl.Term
		m  impl.Matrix
		ok bool
	}{
		{seqOf(leafTerm(impl.TmCopy), parOf(idTerm(1), scaleTerm(4)), leafTerm(impl.TmAdd)), matrixOf(1, []int{0}), true},
		{leafTerm(impl.TmZero), matrixOf(1), true}, {leafTerm(impl.TmDiscard), matrixOf(0, nil), true}, {leafTerm(impl.TmAdd), matrixOf(1, []int{1}, []int{1}), true}, {leafTerm(impl.TmSwap), matrixOf(2, []int{0, 1}, []int{1, 0}), true}, {coscaleTerm(3), matrixOf(1, []int{2}), true}, {idTerm(12), unitMatrix(12), true},
		// Not total, not single-valued, and neither of both.
		{leafTerm(impl.TmCozero), impl.Matrix{}, false}, {leafTerm(impl.TmCocopy), impl.Matrix{}, false}, {leafTerm(impl.TmCodiscard), impl.Matrix{}, false}, {leafTerm(impl.TmCoadd), impl.Matrix{}, false}, {coscaleTerm(0), impl.Matrix{}, false},
	} {
		if m, ok := impl.MatrixOfTerm(5, c.t); ok != c.ok || !sameMatrix(m, c.m) {
			t.Error("matrix", c, m, ok)
		}
	}
}

// TestDelaysHaveNoRelation puts delays into terms at all places.
func TestDelaysHaveNoRelation(t *testing.T) {
	for _, kind := range []int{impl.TmDelay, impl.TmCodelay} {
		delay := leafTerm(kind)
		for _, x := range []impl.Term{delay, seqOf(delay, idTerm(1)), seqOf(idTerm(1), delay), parOf(delay, idTerm(1)), parOf(idTerm(1), delay), seqOf(leafTerm(impl.TmZero), delay, leafTerm(impl.TmDiscard)), seqOf(leafTerm(impl.TmCopy), parOf(idTerm(1), seqOf(delay, scaleTerm(0)))), chainTerm(200, delay)} {
			if _, ok := impl.LeafRelation(5, x.Nodes[0]); ok != !isDelayKind(x.Nodes[0].Kind) {
				t.Error("relation of a leaf", x, ok)
			}
			if r, ok := impl.DenoteTerm(5, x); ok || !sameRelation(r, impl.Relation{}) {
				t.Error("relation", x, r, ok)
			}
			if n, ok := impl.DimensionOf(5, x); ok || n != 0 {
				t.Error("dimension", x, n, ok)
			}
			if m, ok := impl.MatrixOfTerm(5, x); ok || !sameMatrix(m, impl.Matrix{}) {
				t.Error("matrix", x, m, ok)
			}
			other := withoutDelays(5, x)
			for _, pair := range [][2]impl.Term{{x, other}, {other, x}, {x, x}} {
				if is, ok := impl.EqualTerms(5, pair[0], pair[1]); is || ok {
					t.Error("equal terms", pair)
				}
				if is, ok := impl.IncludedTerms(5, pair[0], pair[1]); is || ok {
					t.Error("included terms", pair)
				}
				if y, z, ok := impl.MissingPair(5, pair[0], pair[1]); ok || len(y)+len(z) > 0 {
					t.Error("missing pair", pair, y, z, ok)
				}
			}
		}
	}
}
