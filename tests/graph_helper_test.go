package tests

import (
	"math"
	"math/rand/v2"
	"slices"

	"loop.example/g01073/impl"
)

// This file has graphs to test with and computations with them that do not use the program.

const (
	maxGraphWires = 100
	maxEdges      = 60
)

func graphWith(wires int, in, out []int, edges ...impl.Edge) impl.Graph {
	return impl.Graph{Wires: wires, Edges: edges, In: in, Out: out}
}

func edgeOf(kind int, in, out []int) impl.Edge { return impl.Edge{Kind: kind, In: in, Out: out} }

func scaleEdge(kind, factor, in, out int) impl.Edge {
	return impl.Edge{Kind: kind, Value: factor, In: []int{in}, Out: []int{out}}
}

// sameGraph does not tell nil from empty lists.
func sameGraph(a, b impl.Graph) bool {
	sameEdge := func(d, e impl.Edge) bool {
		return d.Kind == e.Kind && d.Value == e.Value && slices.Equal(d.In, e.In) && slices.Equal(d.Out, e.Out)
	}
	return a.Wires == b.Wires && slices.Equal(a.In, b.In) && slices.Equal(a.Out, b.Out) && slices.EqualFunc(a.Edges, b.Edges, sameEdge)
}

// listsOf returns the lists of wires of a graph.
func listsOf(g impl.Graph) [][]int {
	lists := [][]int{g.In, g.Out}
	for _, e := range g.Edges {
		lists = append(lists, e.In, e.Out)
	}
	return lists
}

// isEdgeLeaf reports whether an edge has the numbers of wires and the Value of a leaf of its kind.
func isEdgeLeaf(e impl.Edge) bool {
	wires, found := leafTypes[e.Kind]
	greatest := 0
	if e.Kind == impl.TmScale || e.Kind == impl.TmCoscale {
		greatest = 96
	}
	return found && e.Kind != impl.TmSwap && len(e.In) == wires[0] && len(e.Out) == wires[1] && e.Value >= 0 && e.Value <= greatest
}

// isGraph follows the definition of a valid graph.
func isGraph(g impl.Graph) bool {
	if g.Wires < 0 || g.Wires > maxGraphWires || len(g.Edges) > maxEdges || len(g.In) > maxWires || len(g.Out) > maxWires {
		return false
	}
	occurs := map[int]bool{}
	for _, list := range listsOf(g) {
		for _, wire := range list {
			if wire < 0 || wire >= g.Wires {
				return false
			}
			occurs[wire] = true
		}
	}
	return len(occurs) == g.Wires && !slices.ContainsFunc(g.Edges, func(e impl.Edge) bool { return !isEdgeLeaf(e) })
}

// isDelayKind reports whether a kind has no relation in chapter 8 because it delays.
func isDelayKind(kind int) bool { return kind == impl.TmDelay || kind == impl.TmCodelay }

// hasRelation reports whether p is a field and g a graph over it without delays.
func hasRelation(p int, g impl.Graph) bool {
	isWrong := func(e impl.Edge) bool {
		isScale := e.Kind == impl.TmScale || e.Kind == impl.TmCoscale
		return isDelayKind(e.Kind) || isScale && e.Value >= p
	}
	return slices.Contains(fields, p) && isGraph(g) && !slices.ContainsFunc(g.Edges, isWrong)
}

// withNumbers returns a list with each wire w replaced by number(w).
func withNumbers(list []int, number func(w int) int) []int {
	numbers := []int{}
	for _, wire := range list {
		numbers = append(numbers, number(wire))
	}
	return numbers
}

// renamedGraph returns a graph with each wire w replaced by number(w) in all lists.
func renamedGraph(g impl.Graph, wires int, number func(w int) int) impl.Graph {
	renamed := graphWith(wires, withNumbers(g.In, number), withNumbers(g.Out, number))
	for _, e := range g.Edges {
		renamed.Edges = append(renamed.Edges, impl.Edge{Kind: e.Kind, Value: e.Value, In: withNumbers(e.In, number), Out: withNumbers(e.Out, number)})
	}
	return renamed
}

// madeOne follows the definition of making the wires of each pair one. Wires of one class have its least wire as their label.
func madeOne(g impl.Graph, pairs [][2]int) impl.Graph {
	labels := elementsOf(g.Wires)
	for _, pair := range pairs {
		v, w := labels[pair[0]], labels[pair[1]]
		for wire, label := range labels {
			if label == max(v, w) {
				labels[wire] = min(v, w)
			}
		}
	}
	occurring := withNumbers(slices.Concat(listsOf(g)...), func(w int) int { return labels[w] })
	slices.Sort(occurring)
	occurring = slices.Compact(occurring)
	return renamedGraph(g, len(occurring), func(w int) int { return slices.Index(occurring, labels[w]) })
}

// besideGraphs returns the juxtaposition of two graphs.
func besideGraphs(a, b impl.Graph) impl.Graph {
	behind := renamedGraph(b, b.Wires, func(w int) int { return a.Wires + w })
	return graphWith(a.Wires+b.Wires, slices.Concat(a.In, behind.In), slices.Concat(a.Out, behind.Out), slices.Concat(a.Edges, behind.Edges)...)
}

// composedGraphs returns the composition of two graphs.
func composedGraphs(a, b impl.Graph) impl.Graph {
	both := besideGraphs(a, b)
	var pairs [][2]int
	for j, wire := range a.Out {
		pairs = append(pairs, [2]int{wire, a.Wires + b.In[j]})
	}
	both.In, both.Out = both.In[:len(a.In)], both.Out[len(a.Out):]
	return madeOne(both, pairs)
}

// graphOfTree follows the definition of the graph of a term. It fails if the graph of a part is not valid.
func graphOfTree(x tree) (impl.Graph, bool) {
	in, out := elementsOf(x.in), elementsOf(x.in + x.out)[x.in:]
	switch x.node.Kind {
	case impl.TmId:
		return graphWith(x.in, in, in), true
	case impl.TmSwap:
		return graphWith(2, []int{0, 1}, []int{1, 0}), true
	case impl.TmSeq, impl.TmPar:
		a, isA := graphOfTree(x.parts[0])
		b, isB := graphOfTree(x.parts[1])
		if !isA || !isB {
			return impl.Graph{}, false
		}
		joined := besideGraphs(a, b)
		if x.node.Kind == impl.TmSeq {
			joined = composedGraphs(a, b)
		}
		return joined, isGraph(joined)
	}
	return graphWith(x.in+x.out, in, out, impl.Edge{Kind: x.node.Kind, Value: x.node.Value, In: in, Out: out}), true
}

// hasGraph reports whether the graphs of a tree and of all its parts are valid.
func hasGraph(x tree) bool {
	_, ok := graphOfTree(x)
	return ok
}

// equationsOf returns coefficients for all wires, one list for each sum that is 0 exactly for the valuations of a graph.
func equationsOf(p int, g impl.Graph) [][]int {
	var equations [][]int
	equate := func(wires, coefficients []int) {
		equation := make([]int, g.Wires)
		for i, wire := range wires {
			equation[wire] = (equation[wire] + coefficients[i]) % p
		}
		equations = append(equations, equation)
	}
	for _, e := range g.Edges {
		kind, in, out := e.Kind, e.In, e.Out
		if kind >= impl.TmCocopy {
			kind, in, out = mirrorKinds[kind], out, in
		}
		switch kind {
		case impl.TmCopy:
			equate([]int{in[0], out[0]}, []int{1, p - 1})
			equate([]int{in[0], out[1]}, []int{1, p - 1})
		case impl.TmAdd:
			equate([]int{in[0], in[1], out[0]}, []int{1, 1, p - 1})
		case impl.TmZero:
			equate(out, []int{1})
		case impl.TmScale:
			equate([]int{in[0], out[0]}, []int{e.Value, p - 1})
		}
	}
	return equations
}

// solves reports whether v is a valuation of a graph.
func solves(p int, g impl.Graph, v []int) bool {
	return !slices.ContainsFunc(equationsOf(p, g), func(equation []int) bool { return dot(p, equation, v) != 0 })
}

// openElements returns the elements of a valuation at the wires of In and then those at the wires of Out.
func openElements(g impl.Graph, v []int) []int {
	return withNumbers(slices.Concat(g.In, g.Out), func(w int) int { return v[w] })
}

// relationOfGraph returns the relation of a graph over p without delays.
func relationOfGraph(p int, g impl.Graph) impl.Relation {
	equations := equationsOf(p, g)
	columns := zeroMatrix(g.Wires, len(equations))
	for i, equation := range equations {
		for wire, coefficient := range equation {
			columns.Rows[wire][i] = coefficient
		}
	}
	var pairs [][]int
	for _, v := range kernelRows(p, len(equations), columns.Rows) {
		pairs = append(pairs, openElements(g, v))
	}
	return generatedBy(p, len(g.In), len(g.Out), pairs)
}

// fixedRow returns the row of coefficients, with their sum behind them, that gives a wire of a graph an element.
func fixedRow(g impl.Graph, wire, element int) []int {
	row := zeros(g.Wires + 1)
	row[wire], row[g.Wires] = 1, element
	return row
}

// solutionsOf returns rows of coefficients, with their sums behind them, whose solutions are the valuations with the elements xy at the wires of In and Out. It fails if there is none.
func solutionsOf(p int, g impl.Graph, xy []int) ([][]int, bool) {
	var rows [][]int
	for _, equation := range equationsOf(p, g) {
		rows = append(rows, append(equation, 0))
	}
	for i, wire := range slices.Concat(g.In, g.Out) {
		rows = append(rows, fixedRow(g, wire, xy[i]))
	}
	return solvable(p, g.Wires, rows)
}

// firstSolution returns the first valuation with the elements xy at the wires of In and Out: it tries the elements for each wire in turn. It fails if there is none.
func firstSolution(p int, g impl.Graph, xy []int) ([]int, bool) {
	rows, ok := solutionsOf(p, g, xy)
	if !ok {
		return nil, false
	}
	v := []int{}
	for wire := range g.Wires {
		for element := range p {
			if more, ok := solvable(p, g.Wires, append(slices.Clone(rows), fixedRow(g, wire, element))); ok {
				rows, v = more, append(v, element)
				break
			}
		}
	}
	return v, true
}

// solvable returns rows with the same solutions, at most one for each unknown. It fails if there are no solutions.
func solvable(p, unknowns int, rows [][]int) ([][]int, bool) {
	basis := spannedBy(p, unknowns+1, rows).Basis
	if len(basis) > 0 && leadingIndex(basis[len(basis)-1]) == unknowns {
		return nil, false
	}
	return basis, true
}

// randomGraph returns a valid graph over p without delays, in which wires may occur any number of times: they may connect any edges and pass through the interface.
func randomGraph(source *rand.Rand, p, wires, edges, open int) impl.Graph {
	list := func(n int) []int {
		if wires == 0 {
			return nil
		}
		return randomList(source, wires, n)
	}
	g := graphWith(wires, list(source.IntN(open+1)), list(source.IntN(open+1)))
	for range edges {
		kind := impl.TmCopy + source.IntN(impl.TmCodelay-impl.TmCopy+1)
		if isDelayKind(kind) || wires == 0 {
			continue
		}
		e := edgeOf(kind, list(leafTypes[kind][0]), list(leafTypes[kind][1]))
		if kind == impl.TmScale || kind == impl.TmCoscale {
			e.Value = source.IntN(p)
		}
		g.Edges = append(g.Edges, e)
	}
	return madeOne(g, nil)
}

type graphCase struct {
	p int
	g impl.Graph
}

// smallGraphs returns graphs so small that all lists with an element for each wire can be looked at.
func smallGraphs() []graphCase {
	var cases []graphCase
	source := rand.New(rand.NewPCG(8, 9))
	for _, size := range []struct{ p, wires int }{{2, 7}, {3, 4}, {5, 3}, {7, 2}} {
		for wires := range size.wires + 1 {
			for edges := range 6 {
				for open := range 4 {
					cases = append(cases, graphCase{size.p, randomGraph(source, size.p, wires, edges, open)})
				}
			}
		}
	}
	return append(cases, loopGraphs()...)
}

// loopGraphs returns small graphs with edges that have a wire more than once, with cycles, and with wires of the interface that repeat or pass through.
func loopGraphs() []graphCase {
	var cases []graphCase
	for _, p := range []int{2, 3, 5} {
		for _, g := range []impl.Graph{
			{}, graphWith(1, []int{0}, nil), graphWith(1, nil, []int{0}), graphWith(1, []int{0, 0}, []int{0}), graphWith(2, []int{0, 1, 0}, []int{1, 1}), graphWith(2, []int{1, 0}, []int{0, 1}),
			graphWith(1, nil, nil, edgeOf(impl.TmCopy, []int{0}, []int{0, 0})), graphWith(1, []int{0}, []int{0}, edgeOf(impl.TmAdd, []int{0, 0}, []int{0})), graphWith(2, []int{0}, []int{1}, edgeOf(impl.TmAdd, []int{0, 0}, []int{1})), graphWith(2, []int{0}, []int{1}, edgeOf(impl.TmAdd, []int{0, 1}, []int{0})), graphWith(2, []int{0}, []int{1}, edgeOf(impl.TmCoadd, []int{0}, []int{1, 1})),
			graphWith(1, []int{0}, nil, scaleEdge(impl.TmScale, 1, 0, 0)), graphWith(1, []int{0}, nil, scaleEdge(impl.TmScale, p-1, 0, 0)), graphWith(1, []int{0}, nil, scaleEdge(impl.TmCoscale, 0, 0, 0)), graphWith(2, []int{0}, []int{1}, scaleEdge(impl.TmCoscale, 0, 0, 1)), graphWith(2, []int{0}, []int{1}, scaleEdge(impl.TmScale, p-1, 0, 1), scaleEdge(impl.TmScale, p-1, 1, 0)),
			graphWith(3, nil, nil, edgeOf(impl.TmCopy, []int{2}, []int{1, 0}), edgeOf(impl.TmAdd, []int{0, 1}, []int{2})), graphWith(3, []int{2}, []int{2}, edgeOf(impl.TmAdd, []int{2, 1}, []int{0})), graphWith(2, nil, nil, edgeOf(impl.TmZero, nil, []int{1}), edgeOf(impl.TmCozero, []int{1}, nil), edgeOf(impl.TmDiscard, []int{0}, nil), edgeOf(impl.TmCodiscard, nil, []int{0})),
		} {
			cases = append(cases, graphCase{p, g})
		}
	}
	return cases
}

// chainGraph returns the graph of n edges of one kind with one input and one output wire, one behind the other, beside wires that pass through.
func chainGraph(kind, value, n, beside int) impl.Graph {
	through := elementsOf(n + 1 + beside)[n+1:]
	g := graphWith(n+1+beside, append([]int{0}, through...), append([]int{n}, through...))
	for i := range n {
		g.Edges = append(g.Edges, scaleEdge(kind, value, i, i+1))
	}
	return g
}

// widestGraph returns a graph with 100 wires, 60 edges, 12 inputs and 12 outputs.
func widestGraph() impl.Graph {
	g := graphWith(maxGraphWires, elementsOf(12), elementsOf(maxGraphWires)[88:])
	for i := range 40 {
		g.Edges = append(g.Edges, edgeOf(impl.TmCopy, []int{i}, []int{i + 12, i + 52}))
	}
	for i := range 20 {
		g.Edges = append(g.Edges, edgeOf(impl.TmCoadd, []int{80 + i}, []int{60 - i, 20 + i}))
	}
	return g
}

// invalidGraphs returns graphs that are not valid, each for another reason.
func invalidGraphs() []impl.Graph {
	graphs := []impl.Graph{
		graphWith(1, nil, nil), graphWith(2, []int{0}, []int{0}), graphWith(2, []int{1}, []int{1}), graphWith(0, []int{0}, nil), graphWith(0, nil, []int{0}), graphWith(1, []int{0, 1}, nil), graphWith(1, []int{0}, []int{-1}), graphWith(1, []int{math.MinInt, 0}, nil), graphWith(1, nil, []int{0, math.MaxInt}),
		graphWith(-1, nil, nil), graphWith(math.MinInt, nil, nil), graphWith(math.MaxInt, nil, nil), graphWith(1<<32, nil, nil), graphWith(-1, []int{-1}, nil), graphWith(math.MaxInt, []int{0}, []int{math.MaxInt - 1}),
		graphWith(13, elementsOf(13), nil), graphWith(13, nil, elementsOf(13)), graphWith(1, zeros(13), nil), graphWith(1, nil, zeros(13)), graphWith(1, zeros(100000), zeros(100000)),
		chainGraph(impl.TmScale, 1, 61, 0), chainGraph(impl.TmDelay, 0, 61, 0), graphWith(1, []int{0}, nil, slices.Repeat([]impl.Edge{edgeOf(impl.TmDiscard, []int{0}, nil)}, 61)...), graphWith(1, []int{0}, nil, slices.Repeat([]impl.Edge{{}}, 100000)...),
		graphWith(2, []int{0}, []int{1}, edgeOf(impl.TmDiscard, []int{2}, nil)), graphWith(2, []int{0}, []int{1}, edgeOf(impl.TmZero, nil, []int{-1})), graphWith(1, nil, nil, edgeOf(impl.TmDiscard, []int{math.MinInt}, nil)),
	}
	for kind := -1; kind <= 18; kind++ {
		if kind < impl.TmCopy || kind > impl.TmCodelay {
			graphs = append(graphs, graphWith(1, []int{0}, []int{0}, edgeOf(kind, []int{0}, []int{0})), graphWith(2, []int{0}, []int{1}, edgeOf(kind, []int{0, 1}, []int{1, 0})), graphWith(1, []int{0}, nil, edgeOf(kind, nil, nil)))
			continue
		}
		in, out := zeros(leafTypes[kind][0]), zeros(leafTypes[kind][1])
		for _, value := range []int{-1, 97, math.MinInt, math.MaxInt} {
			graphs = append(graphs, graphWith(1, []int{0}, nil, impl.Edge{Kind: kind, Value: value, In: in, Out: out}))
		}
		if kind != impl.TmScale && kind != impl.TmCoscale {
			graphs = append(graphs, graphWith(1, []int{0}, nil, impl.Edge{Kind: kind, Value: 1, In: in, Out: out}))
		}
		graphs = append(graphs, graphWith(1, []int{0}, nil, edgeOf(kind, append(zeros(len(in)), 0), out)), graphWith(1, []int{0}, nil, edgeOf(kind, in, append(zeros(len(out)), 0))))
		if len(in) > 0 {
			graphs = append(graphs, graphWith(1, []int{0}, nil, edgeOf(kind, in[1:], out)))
		}
		if len(out) > 0 {
			graphs = append(graphs, graphWith(1, []int{0}, nil, edgeOf(kind, in, nil)))
		}
	}
	return graphs
}
