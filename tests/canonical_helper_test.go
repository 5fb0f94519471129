package tests

import (
	"math/rand/v2"
	"slices"
	"strconv"
	"strings"

	"loop.example/g01073/impl"
)

// This file has monogamous graphs to test with, and what chapter 10 says of them, computed without the program.

// monogamousGraph returns the graph with some kinds of edges and some inputs, in which the wires begin at the inputs and then at the edges in turn, and end at the edges in turn and then at the outputs: ends lists them.
func monogamousGraph(kinds []int, inputs int, ends []int) impl.Graph {
	g := graphWith(len(ends), elementsOf(inputs), nil)
	next := inputs
	for _, kind := range kinds {
		in, out := leafTypes[kind][0], leafTypes[kind][1]
		e := edgeOf(kind, slices.Clone(ends[:in]), elementsOf(next + out)[next:])
		next += out
		ends = ends[in:]
		if isScaleKind(kind) {
			e.Value = 2
		}
		g.Edges = append(g.Edges, e)
	}
	g.Out = slices.Clone(ends)
	return g
}

// endsOf returns how many wires begin, and how many end, at edges of some kinds.
func endsOf(kinds []int) (int, int) {
	begun, ended := 0, 0
	for _, kind := range kinds {
		begun, ended = begun+leafTypes[kind][1], ended+leafTypes[kind][0]
	}
	return begun, ended
}

// permutationsOf returns all permutations of a list.
func permutationsOf(list []int) [][]int {
	if len(list) == 0 {
		return [][]int{nil}
	}
	var all [][]int
	for i, x := range list {
		for _, others := range permutationsOf(slices.Delete(slices.Clone(list), i, i+1)) {
			all = append(all, append([]int{x}, others...))
		}
	}
	return all
}

// monogamousGraphs returns, for each choice of at most so many edges of some kinds and of at most two inputs, the list of all graphs with at most so many wires, but for their numbers of wires.
func monogamousGraphs(kinds []int, edges, wires int) [][]impl.Graph {
	var groups [][]impl.Graph
	for n := range edges + 1 {
		for _, list := range argumentLists(kinds, n) {
			begun, ended := endsOf(list)
			for inputs := range 3 {
				count := inputs + begun
				if count > wires || count < ended {
					continue
				}
				var graphs []impl.Graph
				for _, ends := range permutationsOf(elementsOf(count)) {
					graphs = append(graphs, monogamousGraph(list, inputs, ends))
				}
				groups = append(groups, graphs)
			}
		}
	}
	return groups
}

// randomMonogamous returns a graph with some edges of some kinds, and at most so many inputs and outputs; what is left over comes from or leads to edges, so that there may be a few more of them.
func randomMonogamous(source *rand.Rand, kinds []int, edges, inputs, outputs int) impl.Graph {
	list := []int{}
	for range edges {
		list = append(list, kinds[source.IntN(len(kinds))])
	}
	inputs = source.IntN(inputs + 1)
	begun, ended := endsOf(list)
	open := source.IntN(outputs + 1)
	for ; inputs+begun < ended+open && len(list) < maxEdges; begun++ {
		list = append(list, impl.TmZero)
	}
	for ; inputs+begun > ended+open && len(list) < maxEdges; ended++ {
		list = append(list, impl.TmDiscard)
	}
	g := monogamousGraph(list, inputs, source.Perm(max(inputs+begun, ended)))
	for i, e := range g.Edges {
		if isScaleKind(e.Kind) {
			g.Edges[i].Value = source.IntN(3)
		}
	}
	return shuffledGraph(source, g)
}

// shuffledGraph returns a graph with other numbers.
func shuffledGraph(source *rand.Rand, g impl.Graph) impl.Graph {
	return renumberedGraph(g, source.Perm(g.Wires), source.Perm(len(g.Edges)))
}

// ringGraph returns n edges of one kind, each of which leads to the next one, and the last one to the first one.
func ringGraph(kind, value, n int) impl.Graph {
	g := graphWith(n, nil, nil)
	for i := range n {
		g.Edges = append(g.Edges, scaleEdge(kind, value, i, (i+1)%n))
	}
	return g
}

// allBeside returns the juxtaposition of graphs.
func allBeside(graphs ...impl.Graph) impl.Graph {
	var all impl.Graph
	for _, g := range graphs {
		all = besideGraphs(all, g)
	}
	return all
}

// copiesOf returns n graphs.
func copiesOf(n int, g impl.Graph) impl.Graph { return allBeside(slices.Repeat([]impl.Graph{g}, n)...) }

// ringsOf returns so many rings of n edges, each with another factor, and each one so many times.
func ringsOf(rings, n, times, factor int) impl.Graph {
	var all impl.Graph
	for i := range rings {
		all = besideGraphs(all, copiesOf(times, ringGraph(impl.TmScale, factor+i, n)))
	}
	return all
}

// symmetricGraphs returns graphs with closed components of which some are equal, and some can be turned.
func symmetricGraphs() []impl.Graph {
	source := rand.New(rand.NewPCG(10, 1))
	ring := func(n int) impl.Graph { return ringGraph(impl.TmDelay, 0, n) }
	cut := graphWith(1, nil, nil, edgeOf(impl.TmZero, nil, []int{0}), edgeOf(impl.TmCozero, []int{0}, nil))
	loop := graphWith(3, nil, nil, edgeOf(impl.TmCopy, []int{0}, []int{1, 2}), edgeOf(impl.TmAdd, []int{1, 2}, []int{0}))
	graphs := []impl.Graph{cut, loop, ring(1), ring(2), ring(60), copiesOf(60, ring(1)), copiesOf(12, ring(1)), copiesOf(13, ring(1)), copiesOf(30, cut), copiesOf(30, loop), copiesOf(4, ring(3)), allBeside(ring(3), cut, ring(2), loop, ring(3), cut), allBeside(ringsOf(3, 2, 2, 0), chainGraph(impl.TmDelay, 0, 3, 2), ringsOf(3, 2, 1, 2)), allBeside(chainGraph(impl.TmScale, 1, 20, 10), ringsOf(4, 3, 2, 0), cut, loop)}
	for _, n := range []int{2, 3, 4, 6} {
		mixed := ring(2 * n)
		for i := range n {
			mixed.Edges[2*i].Kind, mixed.Edges[2*i].Value = impl.TmScale, 3
		}
		graphs = append(graphs, mixed, copiesOf(2, mixed))
	}
	for range 40 {
		closed := randomMonogamous(source, []int{impl.TmCopy, impl.TmAdd, impl.TmDelay}, 3, 0, 0)
		if isGraph(closed) {
			graphs = append(graphs, copiesOf(3, closed), allBeside(closed, ring(2), closed, mirroredGraph(closed)))
		}
	}
	for i, g := range graphs {
		graphs[i] = shuffledGraph(source, g)
	}
	return graphs
}

// monogamousShapes returns monogamous graphs of many shapes and sizes, up to the limits.
func monogamousShapes() []impl.Graph {
	source := rand.New(rand.NewPCG(10, 2))
	all := elementsOf(impl.TmCodelay + 1)[impl.TmCopy:]
	graphs := append(symmetricGraphs(), impl.Graph{}, graphWith(12, elementsOf(12), source.Perm(12)), chainGraph(impl.TmDelay, 0, 60, 11), chainGraph(impl.TmCoscale, 96, 60, 0), fullestGraph())
	for _, kinds := range [][]int{all, {impl.TmCopy, impl.TmAdd}, {impl.TmDelay, impl.TmScale, impl.TmCoscale}, {impl.TmCopy, impl.TmCoadd, impl.TmCocopy, impl.TmZero}} {
		for _, size := range [][3]int{{2, 1, 1}, {4, 2, 2}, {6, 0, 0}, {9, 4, 0}, {12, 0, 2}, {15, 3, 5}, {20, 12, 12}, {30, 12, 12}, {45, 0, 0}, {55, 12, 12}} {
			for range 8 {
				graphs = append(graphs, randomMonogamous(source, kinds, size[0], size[1], size[2]))
			}
		}
	}
	return slices.DeleteFunc(graphs, func(g impl.Graph) bool { return !isGraph(g) || !isMonogamous(g) })
}

// fullestGraph returns a monogamous graph with 100 wires, 60 edges, and 10 wires in each list of its interface.
func fullestGraph() impl.Graph {
	source := rand.New(rand.NewPCG(10, 3))
	kinds := append(slices.Repeat([]int{impl.TmCopy}, 30), slices.Repeat([]int{impl.TmAdd}, 30)...)
	return shuffledGraph(source, monogamousGraph(kinds, 10, source.Perm(100)))
}

// walkThrough goes on with a walk through wires and edges that have numbers, and returns all that have one then.
func walkThrough(g impl.Graph, wires, edges []int) ([]int, []int) {
	for i := 0; i < len(wires); i++ {
		isInput := func(e impl.Edge) bool { return slices.Contains(e.In, wires[i]) }
		isOutput := func(e impl.Edge) bool { return slices.Contains(e.Out, wires[i]) }
		for _, isThere := range []func(e impl.Edge) bool{isInput, isOutput} {
			at := slices.IndexFunc(g.Edges, isThere)
			if at >= 0 && !slices.Contains(edges, at) {
				edges = append(edges, at)
				wires = firstPlaces(slices.Concat(wires, g.Edges[at].In, g.Edges[at].Out))
			}
		}
	}
	return wires, edges
}

// firstPlaces returns a list without the numbers that are in it before.
func firstPlaces(list []int) []int {
	var first []int
	for _, x := range list {
		if !slices.Contains(first, x) {
			first = append(first, x)
		}
	}
	return first
}

// closedPart is a closed component in the order of its canonical walk; ways counts the walks with its code.
type closedPart struct {
	wires, edges []int
	code         []int
	ways         int
}

// partFrom returns the component of an edge in the order of the walk that begins with it.
func partFrom(g impl.Graph, edge int) closedPart {
	wires, edges := walkThrough(g, firstPlaces(slices.Concat(g.Edges[edge].In, g.Edges[edge].Out)), []int{edge})
	part := closedPart{wires: wires, edges: edges, ways: 1}
	for _, i := range edges {
		e := g.Edges[i]
		part.code = append(part.code, e.Kind, e.Value)
		part.code = append(part.code, withNumbers(slices.Concat(e.In, e.Out), func(w int) int { return slices.Index(wires, w) })...)
	}
	return part
}

// closedParts returns the closed components of a monogamous graph in their order.
func closedParts(g impl.Graph) []closedPart {
	open, _ := walkThrough(g, firstPlaces(slices.Concat(g.In, g.Out)), nil)
	numbers, count := componentsOf(g)
	parts := make([]closedPart, count)
	for i, e := range g.Edges {
		wire := slices.Concat(e.In, e.Out)[0]
		if slices.Contains(open, wire) {
			continue
		}
		part, best := partFrom(g, i), &parts[numbers[wire]]
		switch order := slices.Compare(part.code, best.code); {
		case best.ways == 0 || order < 0:
			*best = part
		case order == 0:
			best.ways++
		}
	}
	parts = slices.DeleteFunc(parts, func(part closedPart) bool { return part.ways == 0 })
	slices.SortStableFunc(parts, func(a, b closedPart) int { return slices.Compare(a.code, b.code) })
	return parts
}

// canonicalOrder returns the wires and the edges of a monogamous graph in the order of their canonical numbers.
func canonicalOrder(g impl.Graph) ([]int, []int) {
	wires, edges := walkThrough(g, firstPlaces(slices.Concat(g.In, g.Out)), nil)
	for _, part := range closedParts(g) {
		wires, edges = append(wires, part.wires...), append(edges, part.edges...)
	}
	return wires, edges
}

// canonicalOf returns the canonical graph of a monogamous graph.
func canonicalOf(g impl.Graph) impl.Graph {
	wires, edges := canonicalOrder(g)
	return renumberedGraph(g, inversePermutation(wires), inversePermutation(edges))
}

// isIsomorphism follows the definition for valid graphs.
func isIsomorphism(a, b impl.Graph, m impl.Match) bool {
	if a.Wires != b.Wires || len(a.Edges) != len(b.Edges) || !isPermutationOf(a.Wires, m.Wires) || !isPermutationOf(len(a.Edges), m.Edges) {
		return false
	}
	isGiven := func(list, to []int) bool {
		return slices.Equal(withNumbers(list, func(w int) int { return m.Wires[w] }), to)
	}
	for i, e := range a.Edges {
		given := b.Edges[m.Edges[i]]
		if e.Kind != given.Kind || e.Value != given.Value || !isGiven(e.In, given.In) || !isGiven(e.Out, given.Out) {
			return false
		}
	}
	return isGiven(a.In, b.In) && isGiven(a.Out, b.Out)
}

// writtenGraph follows the definition of the text of a graph.
func writtenGraph(g impl.Graph) string {
	names := strings.Fields("copy discard add zero scale delay cocopy codiscard coadd cozero coscale codelay")
	var text strings.Builder
	writeList := func(list []int) {
		for i, x := range list {
			if i > 0 {
				text.WriteByte(',')
			}
			text.WriteString(strconv.Itoa(x))
		}
	}
	text.WriteString(strconv.Itoa(g.Wires) + "|")
	writeList(g.In)
	text.WriteByte('|')
	writeList(g.Out)
	for _, e := range g.Edges {
		text.WriteString("|" + names[e.Kind-impl.TmCopy])
		if isScaleKind(e.Kind) {
			text.WriteString(":" + strconv.Itoa(e.Value))
		}
		text.WriteByte('(')
		writeList(e.In)
		text.WriteByte('>')
		writeList(e.Out)
		text.WriteByte(')')
	}
	return text.String()
}
