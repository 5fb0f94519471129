package tests

import (
	"math/rand/v2"
	"slices"

	"loop.example/g01073/impl"
)

// This file has graphs of all shapes, with delays too, and what chapter 9 says of them, computed without the program.

// interfacesOf returns all lists of at most n of some wires.
func interfacesOf(wires, n int) [][]int {
	var lists [][]int
	for length := range n + 1 {
		lists = append(lists, argumentLists(elementsOf(wires), length)...)
	}
	return lists
}

// edgesOf returns all edges between some wires, with one Value for each kind.
func edgesOf(wires int) []impl.Edge {
	var edges []impl.Edge
	for kind := impl.TmCopy; kind <= impl.TmCodelay; kind++ {
		in, out := leafTypes[kind][0], leafTypes[kind][1]
		for _, list := range argumentLists(elementsOf(wires), in+out) {
			edges = append(edges, edgeOf(kind, list[:in], list[in:]))
		}
	}
	return edges
}

// plainGraphs returns all valid graphs without edges, with at most three wires and at most n wires in each list.
func plainGraphs(n int) []impl.Graph {
	var graphs []impl.Graph
	for wires := range 4 {
		lists := interfacesOf(wires, n)
		for _, in := range lists {
			for _, out := range lists {
				if g := graphWith(wires, in, out); isGraph(g) {
					graphs = append(graphs, g)
				}
			}
		}
	}
	return graphs
}

// tinyGraphs returns all valid graphs with one edge, at most two wires and at most two wires in each list of the interface, with one Value for each kind.
func tinyGraphs() []impl.Graph {
	var graphs []impl.Graph
	for wires := range 3 {
		lists := interfacesOf(wires, 2)
		for _, e := range edgesOf(wires) {
			for _, in := range lists {
				for _, out := range lists {
					if g := graphWith(wires, in, out, e); isGraph(g) {
						graphs = append(graphs, g)
					}
				}
			}
		}
	}
	return graphs
}

// randomShape returns a valid graph, in which wires may occur any number of times.
func randomShape(source *rand.Rand, wires, edges, open int) impl.Graph {
	g := randomGraph(source, 97, wires, edges, open)
	for i, e := range g.Edges {
		if isScaleKind(e.Kind) && source.IntN(2) == 0 {
			g.Edges[i] = edgeOf(e.Kind-impl.TmScale+impl.TmDelay, e.In, e.Out)
		}
	}
	return g
}

func isScaleKind(kind int) bool { return kind == impl.TmScale || kind == impl.TmCoscale }

// orderedShape returns a valid graph in which each wire begins in one place and ends in one place, with few cycles or none.
func orderedShape(source *rand.Rand, edges, back int) impl.Graph {
	var g impl.Graph
	var loose []int
	take := func(n int) []int {
		var wires []int
		for range n {
			at := source.IntN(len(loose) + 1)
			if at == len(loose) {
				loose = append(loose, g.Wires)
				g.In = append(g.In, g.Wires)
				g.Wires++
			}
			wires = append(wires, loose[at])
			loose = slices.Delete(loose, at, at+1)
		}
		return wires
	}
	for range edges {
		kind := impl.TmCopy + source.IntN(impl.TmCodelay-impl.TmCopy+1)
		e := edgeOf(kind, take(leafTypes[kind][0]), nil)
		for range leafTypes[kind][1] {
			loose = append(loose, g.Wires)
			e.Out = append(e.Out, g.Wires)
			g.Wires++
		}
		g.Edges = append(g.Edges, e)
	}
	g.Out = loose
	source.Shuffle(len(g.Out), func(i, j int) { g.Out[i], g.Out[j] = g.Out[j], g.Out[i] })
	return tracedGraph(g, min(back, len(g.In), len(g.Out)))
}

// tracedGraph returns the trace of a graph.
func tracedGraph(g impl.Graph, k int) impl.Graph {
	in, out := len(g.In)-k, len(g.Out)-k
	var pairs [][2]int
	for j := range k {
		pairs = append(pairs, [2]int{g.In[in+j], g.Out[out+j]})
	}
	return madeOne(graphWith(g.Wires, g.In[:in], g.Out[:out], g.Edges...), pairs)
}

// mirroredGraph returns the mirror image of a graph.
func mirroredGraph(g impl.Graph) impl.Graph {
	mirror := graphWith(g.Wires, g.Out, g.In)
	for _, e := range g.Edges {
		mirror.Edges = append(mirror.Edges, impl.Edge{Kind: mirrorKinds[e.Kind], Value: e.Value, In: e.Out, Out: e.In})
	}
	return mirror
}

// renumberedGraph returns a graph with other numbers for wires and edges.
func renumberedGraph(g impl.Graph, wires, edges []int) impl.Graph {
	renumbered := renamedGraph(g, g.Wires, func(w int) int { return wires[w] })
	moved := make([]impl.Edge, len(edges))
	for i, e := range renumbered.Edges {
		moved[edges[i]] = e
	}
	renumbered.Edges = moved
	return renumbered
}

// countsOf returns how often each wire occurs in some lists.
func countsOf(wires int, lists ...[]int) []int {
	counts := make([]int, wires)
	for _, wire := range slices.Concat(lists...) {
		counts[wire]++
	}
	return counts
}

// isMonogamous follows the definition for a valid graph.
func isMonogamous(g impl.Graph) bool {
	begins, ends := [][]int{g.In}, [][]int{g.Out}
	for _, e := range g.Edges {
		begins, ends = append(begins, e.Out), append(ends, e.In)
	}
	isOther := func(count int) bool { return count != 1 }
	return !slices.ContainsFunc(slices.Concat(countsOf(g.Wires, begins...), countsOf(g.Wires, ends...)), isOther)
}

// isAcyclic follows all ways from edges to edges, for a valid graph.
func isAcyclic(g impl.Graph) bool {
	n := len(g.Edges)
	leads := make([][]bool, n)
	for i, d := range g.Edges {
		leads[i] = make([]bool, n)
		for j, e := range g.Edges {
			leads[i][j] = slices.ContainsFunc(d.Out, func(w int) bool { return slices.Contains(e.In, w) })
		}
	}
	for middle := range n {
		for i := range n {
			for j := range n {
				leads[i][j] = leads[i][j] || leads[i][middle] && leads[middle][j]
			}
		}
	}
	for i := range n {
		if leads[i][i] {
			return false
		}
	}
	return true
}

// componentsOf goes through a valid graph from the least wire that has no component yet.
func componentsOf(g impl.Graph) ([]int, int) {
	numbers := slices.Repeat([]int{-1}, g.Wires)
	count := 0
	for first := range g.Wires {
		if numbers[first] >= 0 {
			continue
		}
		reached := []int{first}
		for i := 0; i < len(reached); i++ {
			if numbers[reached[i]] >= 0 {
				continue
			}
			numbers[reached[i]] = count
			for _, e := range g.Edges {
				if wires := slices.Concat(e.In, e.Out); slices.Contains(wires, reached[i]) {
					reached = append(reached, wires...)
				}
			}
		}
		count++
	}
	return numbers, count
}

// shapes returns graphs of many shapes and sizes, up to the limits.
func shapes() []impl.Graph {
	source := rand.New(rand.NewPCG(9, 1))
	graphs := slices.Concat(plainGraphs(2), []impl.Graph{widestGraph(), chainGraph(impl.TmDelay, 0, 60, 11), chainGraph(impl.TmCoscale, 96, 60, 0), chainGraph(impl.TmScale, 1, 3, 2), tracedGraph(chainGraph(impl.TmScale, 1, 60, 2), 3), tracedGraph(chainGraph(impl.TmCodelay, 0, 2, 0), 1)})
	for _, c := range loopGraphs() {
		graphs = append(graphs, c.g)
	}
	for _, size := range [][3]int{{1, 1, 2}, {3, 2, 2}, {4, 4, 3}, {6, 5, 4}, {10, 6, 5}, {20, 12, 6}, {40, 25, 12}, {100, 60, 12}} {
		for range 12 {
			graphs = append(graphs, randomShape(source, size[0], size[1], size[2]))
		}
	}
	for edges := range 20 {
		for back := range 4 {
			if g := orderedShape(source, edges, back); isGraph(g) {
				graphs = append(graphs, g)
			}
		}
	}
	return graphs
}
