package tests

import (
	"math/rand/v2"
	"slices"
	"testing"

	"loop.example/g01073/impl"
)

// This file tests GraphOf.

// checkGraphOf compares the graph of a term with its definition, and returns whether there is one.
func checkGraphOf(t *testing.T, x impl.Term) bool {
	t.Helper()
	want := impl.Graph{}
	whole, isTerm := treeOf(x)
	valid := isTerm && hasGraph(whole)
	if valid {
		want, _ = graphOfTree(whole)
	}
	g, ok := impl.GraphOf(x)
	if ok != valid || !sameGraph(g, want) {
		t.Fatal("graph of", x, g, ok, "not", want, valid)
	}
	return ok
}

func TestGraphsOfTerms(t *testing.T) {
	for _, c := range termCases() {
		checkGraphOf(t, c.t)
	}
	for _, x := range smallTerms(3) {
		checkGraphOf(t, x)
	}
	leaves := []impl.Term{idTerm(0), idTerm(2), leafTerm(impl.TmSwap), leafTerm(impl.TmCopy), leafTerm(impl.TmAdd), leafTerm(impl.TmDiscard)}
	for _, x := range nestedTerms(nil, leaves) {
		checkGraphOf(t, x)
	}
	for _, x := range slices.Concat(invalidTerms(), oddLeaves(), []impl.Term{nameTerm("a"), parOf(nameTerm("a"), idTerm(1))}) {
		if checkGraphOf(t, x) != isValidTerm(x) {
			t.Error("graph of", x)
		}
	}
}

func TestExamplesOfGraphs(t *testing.T) {
	double := seqOf(leafTerm(impl.TmCopy), leafTerm(impl.TmAdd))
	beside := seqOf(leafTerm(impl.TmCopy), parOf(scaleTerm(3), leafTerm(impl.TmCodelay)))
	for _, c := range []struct {
		t impl.Term
		g impl.Graph
	}{
		{idTerm(0), impl.Graph{}}, {idTerm(3), graphWith(3, []int{0, 1, 2}, []int{0, 1, 2})}, {leafTerm(impl.TmSwap), graphWith(2, []int{0, 1}, []int{1, 0})},
		{double, graphWith(4, []int{0}, []int{3}, edgeOf(impl.TmCopy, []int{0}, []int{1, 2}), edgeOf(impl.TmAdd, []int{1, 2}, []int{3}))},
		{seqOf(leafTerm(impl.TmCopy), leafTerm(impl.TmSwap)), graphWith(3, []int{0}, []int{2, 1}, edgeOf(impl.TmCopy, []int{0}, []int{1, 2}))},
		{seqOf(leafTerm(impl.TmSwap), leafTerm(impl.TmSwap)), graphWith(2, []int{0, 1}, []int{0, 1})},
		{parOf(leafTerm(impl.TmZero), leafTerm(impl.TmSwap)), graphWith(3, []int{1, 2}, []int{0, 2, 1}, edgeOf(impl.TmZero, nil, []int{0}))},
		{beside, graphWith(5, []int{0}, []int{3, 4}, edgeOf(impl.TmCopy, []int{0}, []int{1, 2}), scaleEdge(impl.TmScale, 3, 1, 3), edgeOf(impl.TmCodelay, []int{2}, []int{4}))},
		{seqOf(leafTerm(impl.TmZero), leafTerm(impl.TmCozero)), graphWith(1, nil, nil, edgeOf(impl.TmZero, nil, []int{0}), edgeOf(impl.TmCozero, []int{0}, nil))},
	} {
		if g, ok := impl.GraphOf(c.t); !ok || !sameGraph(g, c.g) {
			t.Error("graph of", c.t, g, ok, "not", c.g)
		}
	}
}

// TestLimitsOfGraphs meets the limits of graphs exactly and passes them by one.
func TestLimitsOfGraphs(t *testing.T) {
	for _, kind := range []int{impl.TmScale, impl.TmDelay} {
		for _, c := range []struct {
			edges int
			ok    bool
		}{{59, true}, {60, true}, {61, false}, {200, false}} {
			chain := chainTerm(c.edges, leafTerm(kind))
			if checkGraphOf(t, chain) != c.ok {
				t.Error("graph with edges", c)
			}
			if g, ok := impl.GraphOf(chain); ok && !sameGraph(g, chainGraph(kind, 0, c.edges, 0)) {
				t.Error("graph of a chain", c, g)
			}
		}
	}
	for _, c := range []struct {
		text string
		ok   bool
	}{
		// 60 edges and 99 to 102 wires, and then 100 wires with 60 or 61 edges.
		{layeredText(30, 7, 0), true}, {layeredText(30, 8, 0), true}, {layeredText(30, 9, 0), false}, {layeredText(30, 10, 0), false}, {layeredText(28, 6, 4), true}, {layeredText(28, 4, 5), false},
		// A part with too many wires or edges, in front of others and behind them.
		{"(" + layeredText(30, 9, 0) + ") ; id 11", false}, {"id 11 ; (" + layeredText(30, 9, 0) + ")", false}, {"id 1 * " + layeredText(30, 8, 0), false}, {"id 10 ; " + layeredText(30, 8, 0) + " ; id 10", true},
		{"(id 12 ; id 12) * (id 0 ; id 0)", true}, {"id 12 ; (discard * id 11) ; (zero * id 11)", true},
	} {
		if checkGraphOf(t, parsed(t, nil, c.text)) != c.ok {
			t.Errorf("graph of %q", c.text)
		}
	}
	for _, x := range []impl.Term{chainTerm(200, idTerm(12)), chainTerm(200, idTerm(0)), chainTerm(199, leafTerm(impl.TmSwap)), parOf(slices.Repeat([]impl.Term{idTerm(0)}, 200)...), parOf(slices.Repeat([]impl.Term{leafTerm(impl.TmZero)}, 12)...)} {
		if !checkGraphOf(t, x) {
			t.Error("no graph of", x)
		}
	}
}

// TestGraphsOfPermutations has terms whose graphs are made of many wires that become one.
func TestGraphsOfPermutations(t *testing.T) {
	source := rand.New(rand.NewPCG(8, 1))
	for n := range 13 {
		for range 3 {
			perm := source.Perm(n)
			x, ok := impl.PermutationTerm(perm)
			if !ok || !checkGraphOf(t, x) {
				t.Fatal("graph of a permutation", perm, ok)
			}
			out := zeros(n)
			for i, j := range perm {
				out[j] = i
			}
			if g, _ := impl.GraphOf(x); !sameGraph(g, graphWith(n, elementsOf(n), out)) {
				t.Fatal("graph of a permutation", perm, g)
			}
		}
	}
}

// guardEdge stands in capacities behind lengths.
func guardEdge() impl.Edge { return impl.Edge{Kind: guard, Value: guard} }

// guardedGraph returns a copy with guards in the capacities behind the lengths.
func guardedGraph(g impl.Graph) impl.Graph {
	edges := make([]impl.Edge, len(g.Edges), len(g.Edges)+1)
	for i, e := range g.Edges {
		edges[i] = impl.Edge{Kind: e.Kind, Value: e.Value, In: guardedList(e.In), Out: guardedList(e.Out)}
	}
	edges[:len(edges)+1][len(edges)] = guardEdge()
	return impl.Graph{Wires: g.Wires, Edges: edges, In: guardedList(g.In), Out: guardedList(g.Out)}
}

// isGuardedGraph reports whether g is still a guarded copy of want.
func isGuardedGraph(g, want impl.Graph) bool {
	n := len(want.Edges)
	behind := g.Edges[:n+1][n]
	return sameGraph(g, want) && behind.Kind == guard && behind.Value == guard && slices.EqualFunc(listsOf(g), listsOf(want), isGuardedList)
}

// overwriteGraph writes different numbers into all lists of a graph, in the capacity of each, and reports whether no two of them share memory.
func overwriteGraph(g impl.Graph) bool {
	defer clear(g.Edges[:cap(g.Edges)])
	return rowsResults{lists: listsOf(g)}.overwrite()
}

func TestGraphOfSharesNoMemory(t *testing.T) {
	terms := oddTerms()
	for _, c := range termCases() {
		terms = append(terms, c.t)
	}
	for _, x := range terms {
		if len(x.Nodes) > 1000 {
			continue
		}
		guarded := guardedTerm(x)
		first, ok := impl.GraphOf(guarded)
		want, again := impl.GraphOf(x)
		if ok != again || !sameGraph(first, want) {
			t.Fatal("the graph depends on a capacity or an earlier call", x)
		}
		if !overwriteGraph(first) || !isGuardedTerm(guarded, x) {
			t.Fatal("the graph shares memory", x)
		}
		if last, _ := impl.GraphOf(x); !sameGraph(last, want) {
			t.Fatal("the graph depends on earlier results", x)
		}
	}
}
