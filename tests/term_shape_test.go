package tests

import (
	"math"
	"math/rand/v2"
	"slices"
	"testing"

	"loop.example/g01073/impl"
)

// This file tests terms of permutations and tidy terms.

// layersOf returns the layers that the document describes for a permutation.
func layersOf(perm []int) []impl.Term {
	var layers []impl.Term
	l, n := slices.Clone(perm), len(perm)
	for i := 0; i+1 < n; {
		if l[i] < l[i+1] {
			i++
			continue
		}
		l[i], l[i+1] = l[i+1], l[i]
		layer := leafTerm(impl.TmSwap)
		if i > 0 {
			layer = parOf(idTerm(i), layer)
		}
		if n-2-i > 0 {
			layer = parOf(layer, idTerm(n-2-i))
		}
		layers = append(layers, layer)
		i = 0
	}
	return layers
}

// routed returns the labels at the outputs of a tree of identities and swaps with these labels at the inputs.
func routed(x tree, labels []int) []int {
	switch x.node.Kind {
	case impl.TmSwap:
		return []int{labels[1], labels[0]}
	case impl.TmSeq:
		return routed(x.parts[1], routed(x.parts[0], labels))
	case impl.TmPar:
		n := x.parts[0].in
		return slices.Concat(routed(x.parts[0], labels[:n]), routed(x.parts[1], labels[n:]))
	}
	return labels
}

func checkPermutation(t *testing.T, perm []int) {
	n := len(perm)
	got, ok := impl.PermutationTerm(perm)
	want := idTerm(n)
	if layers := layersOf(perm); len(layers) > 0 {
		want = seqOf(layers...)
	}
	if !ok || !sameTerm(got, want) {
		t.Fatal("permutation", perm, got, ok)
	}
	whole := validTree(got)
	if whole.in != n || whole.out != n {
		t.Fatal("type of a permutation", perm, whole.in, whole.out)
	}
	for j, label := range routed(whole, elementsOf(n)) {
		if perm[label] != j {
			t.Fatal("output of a permutation", perm, j, label)
		}
	}
}

func TestPermutations(t *testing.T) {
	for n := range 7 {
		for _, perm := range argumentLists(elementsOf(n), n) {
			if sorted := slices.Sorted(slices.Values(perm)); slices.Equal(sorted, elementsOf(n)) {
				checkPermutation(t, perm)
			} else if x, ok := impl.PermutationTerm(perm); ok || len(x.Nodes) > 0 {
				t.Fatal("no permutation", perm, x, ok)
			}
		}
	}
	source := rand.New(rand.NewPCG(5, 1))
	for n := 7; n <= maxWires; n++ {
		reversed := elementsOf(n)
		slices.Reverse(reversed)
		checkPermutation(t, reversed)
		checkPermutation(t, elementsOf(n))
		for i := range n {
			checkPermutation(t, slices.Concat(elementsOf(n)[i:], elementsOf(i)))
		}
		for range 200 {
			checkPermutation(t, source.Perm(n))
		}
	}
}

func TestExamplesOfPermutations(t *testing.T) {
	swap := leafTerm(impl.TmSwap)
	for _, c := range []struct {
		perm []int
		want impl.Term
	}{
		{nil, idTerm(0)}, {[]int{}, idTerm(0)}, {[]int{0}, idTerm(1)}, {[]int{0, 1}, idTerm(2)}, {[]int{1, 0}, swap}, {elementsOf(12), idTerm(12)},
		{[]int{1, 2, 0}, seqOf(parOf(idTerm(1), swap), parOf(swap, idTerm(1)))},
		{[]int{2, 0, 1}, seqOf(parOf(swap, idTerm(1)), parOf(idTerm(1), swap))},
		{[]int{2, 1, 0}, seqOf(parOf(swap, idTerm(1)), parOf(idTerm(1), swap), parOf(swap, idTerm(1)))},
		{[]int{0, 2, 1, 3}, parOf(idTerm(1), swap, idTerm(1))}, {[]int{1, 0, 3, 2}, seqOf(parOf(swap, idTerm(2)), parOf(idTerm(2), swap))},
	} {
		if got, ok := impl.PermutationTerm(c.perm); !ok || !sameTerm(got, c.want) {
			t.Error("permutation", c, got, ok)
		}
	}
	longest, ok := impl.PermutationTerm([]int{11, 10, 9, 8, 7, 6, 5, 4, 3, 2, 1, 0})
	if counts, counted := impl.CountKinds(longest); !ok || !counted || counts[impl.TmSwap-1] != 66 || counts[impl.TmSeq-1] != 65 {
		t.Error("longest permutation", ok, counts)
	}
	for _, perm := range [][]int{{1}, {-1}, {0, 0}, {1, 1}, {0, 2}, {1, 2}, {-1, 0}, {0, 1, 1}, {0, 1, 3}, {2, 0, 2}, {math.MaxInt}, {math.MinInt, 0}, elementsOf(13), elementsOf(14), make([]int, 12), make([]int, 100000)} {
		if got, ok := impl.PermutationTerm(perm); ok || len(got.Nodes) > 0 {
			t.Error("no permutation", len(perm), got, ok)
		}
	}
}

// shape is a tidy form as a leaf, for the kind 0, or as a list of at least two factors of which none has its kind.
type shape struct {
	kind    int
	leaf    impl.Node
	factors []shape
}

func (x shape) isLeaf(kind int) bool { return x.kind == 0 && x.leaf.Kind == kind }

// factorsFor returns the factors of x in a join of the kind.
func (x shape) factorsFor(kind int) []shape {
	if x.kind == kind {
		return x.factors
	}
	return []shape{x}
}

func (x shape) term() impl.Term {
	if x.kind == 0 {
		return termWith(x.leaf)
	}
	var terms []impl.Term
	for _, factor := range x.factors {
		terms = append(terms, factor.term())
	}
	return joinedTerms(x.kind, terms...)
}

// joinedShapes joins two tidy forms.
func joinedShapes(kind int, a, b shape) shape {
	isSuperfluous := func(x shape) bool {
		return x.isLeaf(impl.TmId) && (kind == impl.TmSeq || x.leaf.Value == 0)
	}
	if isSuperfluous(a) {
		return b
	}
	if isSuperfluous(b) {
		return a
	}
	joined := shape{kind: kind}
	for _, factor := range slices.Concat(a.factorsFor(kind), b.factorsFor(kind)) {
		last := len(joined.factors) - 1
		// Tidy juxtapositions have no neighbours that are both TmId, so only those in the middle can become one.
		if kind == impl.TmPar && last >= 0 && joined.factors[last].isLeaf(impl.TmId) && factor.isLeaf(impl.TmId) {
			joined.factors[last].leaf.Value += factor.leaf.Value
		} else {
			joined.factors = append(joined.factors, factor)
		}
	}
	if len(joined.factors) == 1 {
		return joined.factors[0]
	}
	return joined
}

func shapeOf(x tree) shape {
	if len(x.parts) == 0 {
		return shape{leaf: x.node}
	}
	return joinedShapes(x.node.Kind, shapeOf(x.parts[0]), shapeOf(x.parts[1]))
}

// isTidy reports whether a tree has no superfluous identity and is nested to the left.
func isTidy(x tree) bool {
	if len(x.parts) == 0 {
		return true
	}
	a, b := x.parts[0], x.parts[1]
	if b.node.Kind == x.node.Kind || !isTidy(a) || !isTidy(b) {
		return false
	}
	isId := func(y tree) bool { return y.node.Kind == impl.TmId }
	if x.node.Kind == impl.TmSeq {
		return !isId(a) && !isId(b)
	}
	isEmpty := func(y tree) bool { return isId(y) && y.in == 0 }
	neighbour := a
	if a.node.Kind == impl.TmPar {
		neighbour = a.parts[1]
	}
	return !isEmpty(a) && !isEmpty(b) && !(isId(neighbour) && isId(b))
}

func checkTidy(t *testing.T, x impl.Term) {
	tidy, ok := impl.TidyTerm(x)
	if !ok || !sameTerm(tidy, shapeOf(validTree(x)).term()) {
		t.Fatal("tidy term", x, tidy, ok)
	}
	before, behind := validTree(x), validTree(tidy)
	if !isTidy(behind) || before.in != behind.in || before.out != behind.out {
		t.Fatal("the term is not tidy, or has another type", x, tidy)
	}
	if again, ok := impl.TidyTerm(tidy); !ok || !sameTerm(again, tidy) {
		t.Fatal("a tidy term is changed", tidy, again, ok)
	}
}

func TestTidyTerms(t *testing.T) {
	for _, c := range termCases() {
		checkTidy(t, c.t)
		if padded := parOf(idTerm(0), c.t, idTerm(0)); isValidTerm(padded) {
			checkTidy(t, padded)
		}
	}
	for _, x := range smallTerms(2) {
		checkTidy(t, x)
	}
	for _, x := range invalidTerms() {
		if tidy, ok := impl.TidyTerm(x); ok || len(tidy.Nodes) > 0 {
			t.Error("tidy form of an invalid term", x, tidy, ok)
		}
	}
}

func TestNestedTidyTerms(t *testing.T) {
	leaves := []impl.Term{idTerm(0), idTerm(1), idTerm(2), leafTerm(impl.TmCopy), leafTerm(impl.TmAdd), leafTerm(impl.TmZero)}
	for _, x := range nestedTerms(nil, leaves) {
		checkTidy(t, x)
	}
}

func TestExamplesOfTidyTerms(t *testing.T) {
	copies, add, zero, swap := leafTerm(impl.TmCopy), leafTerm(impl.TmAdd), leafTerm(impl.TmZero), leafTerm(impl.TmSwap)
	for _, c := range []struct{ x, want impl.Term }{
		{copies, copies}, {idTerm(0), idTerm(0)}, {idTerm(3), idTerm(3)},
		// Compositions with an identity, also one that appears when a part is made tidy.
		{seqOf(idTerm(1), copies), copies}, {seqOf(copies, idTerm(2)), copies}, {seqOf(idTerm(2), idTerm(2)), idTerm(2)}, {seqOf(idTerm(0), idTerm(0)), idTerm(0)}, {seqOf(idTerm(0), zero), zero},
		{seqOf(copies, parOf(idTerm(1), idTerm(1))), copies}, {seqOf(parOf(idTerm(1), idTerm(1)), swap), swap}, {seqOf(parOf(idTerm(1), idTerm(0)), copies), copies},
		// Nesting.
		{seqOf(copies, seqOf(swap, add)), seqOf(copies, swap, add)}, {seqOf(seqOf(copies, swap), seqOf(swap, add)), seqOf(copies, swap, swap, add)}, {seqOf(copies, seqOf(idTerm(2), add)), seqOf(copies, add)},
		{parOf(copies, parOf(add, zero)), parOf(copies, add, zero)}, {parOf(parOf(copies, add), parOf(zero, swap)), parOf(copies, add, zero, swap)},
		{seqOf(parOf(copies, copies), parOf(add, add)), seqOf(parOf(copies, copies), parOf(add, add))}, {parOf(copies, seqOf(swap, swap), add), parOf(copies, seqOf(swap, swap), add)},
		// A composition that becomes a juxtaposition gives its factors to the one around it, and the other way round.
		{parOf(zero, seqOf(idTerm(2), parOf(copies, copies))), parOf(zero, copies, copies)}, {seqOf(zero, parOf(seqOf(copies, add), idTerm(0))), seqOf(zero, copies, add)},
		// Juxtapositions with identities.
		{parOf(idTerm(0), copies), copies}, {parOf(copies, idTerm(0)), copies}, {parOf(idTerm(0), idTerm(0)), idTerm(0)}, {parOf(idTerm(0), idTerm(2)), idTerm(2)}, {parOf(idTerm(2), idTerm(0)), idTerm(2)},
		{parOf(idTerm(1), copies), parOf(idTerm(1), copies)}, {parOf(copies, idTerm(2)), parOf(copies, idTerm(2))}, {parOf(idTerm(2), idTerm(3)), idTerm(5)}, {parOf(idTerm(6), idTerm(6)), idTerm(12)},
		{parOf(copies, idTerm(1), idTerm(2)), parOf(copies, idTerm(3))}, {parOf(idTerm(1), parOf(idTerm(2), copies)), parOf(idTerm(3), copies)}, {parOf(parOf(copies, idTerm(1)), parOf(idTerm(2), add)), parOf(copies, idTerm(3), add)},
		{parOf(idTerm(1), idTerm(0), idTerm(1)), idTerm(2)}, {parOf(idTerm(1), seqOf(idTerm(0), idTerm(0)), idTerm(1)), idTerm(2)}, {parOf(parOf(idTerm(1), zero), parOf(idTerm(1), zero)), parOf(idTerm(1), zero, idTerm(1), zero)},
		{parOf(copies, parOf(idTerm(0), idTerm(0))), copies}, {parOf(idTerm(1), seqOf(idTerm(2), idTerm(2))), idTerm(3)},
		// Identities become one at the middle of a juxtaposition only where they are neighbours.
		{parOf(idTerm(1), copies, idTerm(1)), parOf(idTerm(1), copies, idTerm(1))}, {parOf(idTerm(1), seqOf(parOf(idTerm(1), copies), idTerm(3))), parOf(idTerm(2), copies)},
	} {
		if got, ok := impl.TidyTerm(c.x); !ok || !sameTerm(got, c.want) {
			t.Error("tidy term", c, got, ok)
		}
	}
	long := chainTerm(200, idTerm(12))
	if got, ok := impl.TidyTerm(long); !ok || !sameTerm(got, idTerm(12)) {
		t.Error("tidy chain of identities", got, ok)
	}
	right := swap
	for range 199 {
		right = seqOf(swap, right)
	}
	if got, ok := impl.TidyTerm(right); !ok || !sameTerm(got, chainTerm(200, swap)) {
		t.Error("tidy chain that is nested to the right", ok)
	}
}
