package tests

import (
	"math/rand/v2"
	"slices"
	"testing"

	"loop.example/g01073/impl"
)

// This file tests P9: graphs of terms denote their relations, and composed graphs denote composed relations.

// denotedGraph returns the relation of a graph, which the program and the tests must agree on.
func denotedGraph(t *testing.T, p int, g impl.Graph) impl.Relation {
	t.Helper()
	r, ok := impl.DenoteGraph(p, g)
	if !ok || !sameRelation(r, relationOfGraph(p, g)) {
		t.Fatal("relation of a graph", p, g, r, ok)
	}
	return r
}

// tracedRelation returns the pairs x, y for which there is a list z of length k such that the relation has the pair x, z and y, z.
func tracedRelation(p int, r impl.Relation, k int) impl.Relation {
	n, m := r.Left-k, r.Right-k
	differences := make([][]int, len(r.Basis))
	for i, pair := range r.Basis {
		for j := range k {
			differences[i] = append(differences[i], (pair[n+j]-pair[r.Left+m+j]+p)%p)
		}
	}
	var rows [][]int
	for _, x := range kernelRows(p, k, differences) {
		pair := listTimes(p, x, impl.Matrix{Cols: r.Left + r.Right, Rows: r.Basis})
		rows = append(rows, slices.Concat(pair[:n], pair[r.Left:r.Left+m]))
	}
	return generatedBy(p, n, m, rows)
}

func TestGraphsOfTermsDenoteTheirRelations(t *testing.T) {
	for _, c := range casesWithGraphs(t) {
		if r := denotedGraph(t, c.p, c.g); !sameRelation(r, denoted(c.p, c.t)) || !sameRelation(r, relationOfTerm(t, c.p, c.t)) {
			t.Fatal("relation of the graph of a term", c, r)
		}
	}
}

// TestGraphsOfTermsCompose compares the graphs of compositions and juxtapositions, with delays too, with those that are composed.
func TestGraphsOfTermsCompose(t *testing.T) {
	terms := append(smallTerms(2), nestedTerms(nil, []impl.Term{leafTerm(impl.TmCopy), leafTerm(impl.TmDelay), leafTerm(impl.TmCoadd), idTerm(1), leafTerm(impl.TmSwap)})...)
	source := rand.New(rand.NewPCG(9, 5))
	compositions := 0
	for range 6000 {
		x, y := terms[source.IntN(len(terms))], terms[source.IntN(len(terms))]
		a, isA := impl.GraphOf(x)
		b, isB := impl.GraphOf(y)
		if !isA || !isB {
			t.Fatal("no graph", x, y)
		}
		want, ok := impl.SeqGraphs(a, b)
		g, isTerm := impl.GraphOf(seqOf(x, y))
		checkGraph(t, g, isTerm, want, ok, x, "composed with", y)
		if ok {
			compositions++
		}
		want, ok = impl.ParGraphs(a, b)
		g, isTerm = impl.GraphOf(parOf(x, y))
		checkGraph(t, g, isTerm, want, ok, x, "beside", y)
	}
	if compositions < 300 {
		t.Error("there are but", compositions, "compositions")
	}
}

// checkGluedRelations checks that what is made of two graphs over p without delays denotes what is made of their relations, and returns whether they have been composed.
func checkGluedRelations(t *testing.T, p int, a, b impl.Graph) bool {
	t.Helper()
	r, s := denotedGraph(t, p, a), denotedGraph(t, p, b)
	if g, ok := impl.ParGraphs(a, b); ok && !sameRelation(denotedGraph(t, p, g), tensored(p, r, s)) {
		t.Fatal("relation of a juxtaposition", p, a, b, g)
	}
	g, ok := impl.SeqGraphs(a, b)
	if !ok {
		return false
	}
	both := denotedGraph(t, p, g)
	if same, isRelation := impl.ComposeRelations(p, r, s); !isRelation || !sameRelation(both, same) || !sameRelation(both, composed(p, r, s)) {
		t.Fatal("relation of a composition", p, a, b, g)
	}
	return true
}

func TestComposedGraphsDenoteComposedRelations(t *testing.T) {
	compositions := 0
	for _, cases := range [][]graphCase{smallGraphs(), wideGraphs()} {
		for i, first := range cases {
			for j := i % 11; j < len(cases); j += 11 {
				if first.p == cases[j].p && checkGluedRelations(t, first.p, first.g, cases[j].g) {
					compositions++
				}
			}
		}
	}
	for _, p := range []int{2, 3} {
		plain := plainGraphs(2)
		for i, a := range plain {
			for j := i % 11; j < len(plain); j += 11 {
				checkGluedRelations(t, p, a, plain[j])
			}
		}
	}
	if compositions < 300 {
		t.Error("there are but", compositions, "compositions")
	}
}

// TestTracesMergesAndMirrorsDenoteRelations compares relations of graphs that are made of one graph.
func TestTracesMergesAndMirrorsDenoteRelations(t *testing.T) {
	source := rand.New(rand.NewPCG(9, 3))
	for _, c := range append(smallGraphs(), wideGraphs()...) {
		r := denotedGraph(t, c.p, c.g)
		mirror, ok := impl.MirrorGraph(c.g)
		if !ok || !sameRelation(denotedGraph(t, c.p, mirror), converseOf(c.p, r)) {
			t.Fatal("relation of a mirror image", c, mirror, ok)
		}
		for k := range min(len(c.g.In), len(c.g.Out)) + 1 {
			traced, ok := impl.TraceGraph(c.g, k)
			if !ok || !sameRelation(denotedGraph(t, c.p, traced), tracedRelation(c.p, r, k)) {
				t.Fatal("relation of a trace", c, k, traced, ok)
			}
		}
		if c.g.Wires == 0 {
			continue
		}
		v, w := source.IntN(c.g.Wires), source.IntN(c.g.Wires)
		equal := graphWith(c.g.Wires, c.g.In, c.g.Out, append(slices.Clone(c.g.Edges), scaleEdge(impl.TmScale, 1, v, w))...)
		merged, ok := impl.MergeWires(c.g, v, w)
		if !ok || !sameRelation(denotedGraph(t, c.p, merged), relationOfGraph(c.p, equal)) {
			t.Fatal("relation of a graph with one wire", c, v, w, merged, ok)
		}
		wires, edges := source.Perm(c.g.Wires), source.Perm(len(c.g.Edges))
		renumbered, ok := impl.RenumberGraph(c.g, wires, edges)
		if !ok || !sameRelation(denotedGraph(t, c.p, renumbered), r) {
			t.Fatal("relation of a renumbered graph", c, wires, edges, renumbered, ok)
		}
	}
}
