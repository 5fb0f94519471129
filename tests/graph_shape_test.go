package tests

import (
	"math"
	"math/rand/v2"
	"slices"
	"testing"

	"loop.example/g01073/impl"
)

// This file tests P9 for the shapes of graphs, their numbers and their components.

func TestGraphsAreValid(t *testing.T) {
	valid := slices.Concat(plainGraphs(3), tinyGraphs(), shapes())
	for _, g := range append(valid, invalidGraphs()...) {
		for _, p := range []int{2, 97} {
			if impl.IsGraph(p, g) != isGraphOver(p, g) {
				t.Fatal("IsGraph", p, g)
			}
		}
	}
	// All lists with up to one wire too few or too many, and with numbers that are no wires.
	for wires := -1; wires <= 2; wires++ {
		numbers := []int{-1, 0, 1, 2}
		lists := append(argumentLists(numbers, 1), nil)
		for _, in := range lists {
			for _, out := range append(lists, argumentLists(numbers, 2)...) {
				for _, e := range []impl.Edge{edgeOf(impl.TmDelay, in, in), edgeOf(impl.TmCopy, in, out), edgeOf(impl.TmCodiscard, nil, in), scaleEdge(impl.TmScale, wires+1, 0, 0)} {
					for _, g := range []impl.Graph{graphWith(wires, in, out), graphWith(wires, in, out, e), graphWith(wires, nil, nil, e)} {
						if impl.IsGraph(3, g) != isGraphOver(3, g) {
							t.Fatal("IsGraph", g)
						}
					}
				}
			}
		}
	}
}

// isGraphOver reports whether p is a field and g a graph over it.
func isGraphOver(p int, g impl.Graph) bool {
	isOutside := func(e impl.Edge) bool { return isScaleKind(e.Kind) && e.Value >= p }
	return slices.Contains(fields, p) && isGraph(g) && !slices.ContainsFunc(g.Edges, isOutside)
}

func TestGraphsOverFields(t *testing.T) {
	for _, p := range oddFields() {
		for _, factor := range []int{0, 1, 2, 3, 6, 7, 95, 96} {
			for _, kind := range []int{impl.TmScale, impl.TmCoscale} {
				g := graphWith(3, []int{0}, []int{2}, edgeOf(impl.TmDelay, []int{0}, []int{1}), scaleEdge(kind, factor, 1, 2))
				if impl.IsGraph(p, g) != (slices.Contains(fields, p) && factor < p) {
					t.Error("IsGraph", p, g)
				}
			}
		}
		for _, g := range []impl.Graph{{}, graphWith(1, []int{0}, []int{0}), chainGraph(impl.TmDelay, 0, 60, 0), widestGraph()} {
			if impl.IsGraph(p, g) != slices.Contains(fields, p) {
				t.Error("IsGraph", p, g)
			}
		}
	}
}

func TestShapesOfGraphs(t *testing.T) {
	kinds := map[[2]bool]int{}
	for _, g := range slices.Concat(plainGraphs(3), tinyGraphs(), shapes()) {
		monogamous, acyclic := impl.IsMonogamous(g), impl.IsAcyclic(g)
		if monogamous != isMonogamous(g) || acyclic != isAcyclic(g) {
			t.Fatal("shape of", g, monogamous, acyclic)
		}
		if len(g.Edges) > 3 {
			kinds[[2]bool{monogamous, acyclic}]++
		}
	}
	for _, kind := range [][2]bool{{false, false}, {false, true}, {true, false}, {true, true}} {
		if kinds[kind] < 5 {
			t.Error("there are but", kinds[kind], "graphs of the kind", kind)
		}
	}
	for _, c := range termCases() {
		if g, ok := impl.GraphOf(c.t); ok && (!impl.IsMonogamous(g) || !impl.IsAcyclic(g)) {
			t.Fatal("the graph of a term is not monogamous and acyclic", c, g)
		}
	}
	for _, g := range invalidGraphs() {
		if impl.IsMonogamous(g) || impl.IsAcyclic(g) {
			t.Error("an invalid graph has a shape", g)
		}
	}
}

func TestExamplesOfShapes(t *testing.T) {
	delay := func(in, out int) impl.Edge { return edgeOf(impl.TmDelay, []int{in}, []int{out}) }
	for _, c := range []struct {
		g                   impl.Graph
		monogamous, acyclic bool
	}{
		{impl.Graph{}, true, true}, {graphWith(1, []int{0}, []int{0}), true, true}, {graphWith(2, []int{0, 1}, []int{1, 0}), true, true},
		{graphWith(1, []int{0}, nil), false, true}, {graphWith(1, nil, []int{0}), false, true}, {graphWith(1, []int{0, 0}, []int{0}), false, true}, {graphWith(1, []int{0}, []int{0, 0}), false, true},
		// A wire that begins twice, one that ends twice, and both at once with counts that agree.
		{graphWith(2, []int{0, 1}, []int{1}, delay(0, 1)), false, true}, {graphWith(2, []int{0}, []int{1, 0}, delay(0, 1)), false, true}, {graphWith(2, []int{0, 0}, []int{1, 1}), false, true}, {graphWith(3, []int{0, 0}, []int{2, 2}, delay(1, 1)), false, false},
		// One edge, two edges and three edges on a cycle.
		{graphWith(1, nil, nil, delay(0, 0)), true, false}, {graphWith(2, nil, nil, delay(0, 1), delay(1, 0)), true, false}, {graphWith(3, nil, nil, delay(0, 1), delay(1, 2), delay(2, 0)), true, false}, {graphWith(3, []int{0}, []int{2}, delay(1, 2), delay(0, 1)), true, true},
		{graphWith(3, []int{0}, []int{2}, edgeOf(impl.TmAdd, []int{0, 1}, []int{1}), edgeOf(impl.TmZero, nil, []int{2})), true, false},
		{graphWith(3, []int{0}, nil, edgeOf(impl.TmCoadd, []int{0}, []int{1, 2}), edgeOf(impl.TmAdd, []int{1, 2}, []int{0})), false, false},
		// The interface does not close a cycle, and neither do two edges with the same wires.
		{graphWith(2, []int{0, 1}, []int{1, 0}, delay(0, 1)), false, true}, {graphWith(2, []int{0}, []int{1}, delay(0, 1), delay(0, 1)), false, true},
		// An edge behind a cycle and one before it.
		{graphWith(4, []int{0}, []int{3}, delay(0, 1), delay(1, 2), delay(2, 1), delay(2, 3)), false, false},
		{graphWith(2, nil, nil, edgeOf(impl.TmZero, nil, []int{0}), edgeOf(impl.TmCozero, []int{0}, nil), edgeOf(impl.TmCodiscard, nil, []int{1}), edgeOf(impl.TmDiscard, []int{1}, nil)), true, true},
	} {
		if impl.IsMonogamous(c.g) != c.monogamous || impl.IsAcyclic(c.g) != c.acyclic {
			t.Error("shape of", c)
		}
	}
	for _, n := range []int{1, 2, 59, 60, 61} {
		chain := chainGraph(impl.TmDelay, 0, n, 1)
		closed := tracedGraph(graphWith(chain.Wires, []int{n + 1, 0}, []int{n + 1, n}, chain.Edges...), 1)
		if impl.IsAcyclic(chain) != (n <= 60) || impl.IsMonogamous(chain) != (n <= 60) || impl.IsAcyclic(closed) || impl.IsMonogamous(closed) != (n <= 60) {
			t.Error("shape of a chain", n)
		}
	}
}

// checkRenumbered compares a renumbered graph with its definition, and gives it its numbers back.
func checkRenumbered(t *testing.T, g impl.Graph, wires, edges []int) {
	t.Helper()
	renumbered, ok := impl.RenumberGraph(g, wires, edges)
	checkGraph(t, renumbered, ok, renumberedGraph(g, wires, edges), true, g, "renumbered", wires, edges)
	back, ok := impl.RenumberGraph(renumbered, inversePermutation(wires), inversePermutation(edges))
	checkGraph(t, back, ok, g, true, renumbered, "renumbered back", wires, edges)
}

func inversePermutation(perm []int) []int {
	inverse := make([]int, len(perm))
	for i, j := range perm {
		inverse[j] = i
	}
	return inverse
}

func TestRenumberedGraphs(t *testing.T) {
	source := rand.New(rand.NewPCG(9, 4))
	for _, g := range slices.Concat(plainGraphs(2), tinyGraphs(), shapes()) {
		checkRenumbered(t, g, elementsOf(g.Wires), elementsOf(len(g.Edges)))
		for range 3 {
			checkRenumbered(t, g, source.Perm(g.Wires), source.Perm(len(g.Edges)))
		}
	}
	triangle := graphWith(3, []int{0}, []int{2}, scaleEdge(impl.TmScale, 1, 0, 1), scaleEdge(impl.TmCoscale, 2, 1, 2), scaleEdge(impl.TmScale, 3, 0, 2))
	for _, wires := range argumentLists([]int{-1, 0, 1, 2, 3}, 3) {
		for _, edges := range argumentLists([]int{-1, 0, 1, 2, 3}, 3) {
			if isPermutationOf(3, wires) && isPermutationOf(3, edges) {
				checkRenumbered(t, triangle, wires, edges)
			} else if g, ok := impl.RenumberGraph(triangle, wires, edges); ok || !sameGraph(g, impl.Graph{}) {
				t.Fatal("renumbered", wires, edges, g, ok)
			}
		}
	}
	want := graphWith(3, []int{2}, []int{1}, scaleEdge(impl.TmScale, 3, 2, 1), scaleEdge(impl.TmScale, 1, 2, 0), scaleEdge(impl.TmCoscale, 2, 0, 1))
	g, ok := impl.RenumberGraph(triangle, []int{2, 0, 1}, []int{1, 2, 0})
	checkGraph(t, g, ok, want, true, triangle)
	for _, bad := range [][]int{nil, {}, {0}, {0, 1}, {0, 1, 2, 3}, {0, 1, 3}, {1, 2, 3}, {0, 1, 1}, {0, 0, 0}, {2, 1, -1}, {0, 1, math.MinInt}, {math.MaxInt, 1, 2}, make([]int, 100000)} {
		for _, lists := range [][2][]int{{bad, {0, 1, 2}}, {{0, 1, 2}, bad}, {bad, bad}} {
			if g, ok := impl.RenumberGraph(triangle, lists[0], lists[1]); ok || !sameGraph(g, impl.Graph{}) {
				t.Error("renumbered", len(bad), g, ok)
			}
		}
	}
	for _, lists := range [][2][]int{{{0}, nil}, {nil, {0}}, {{0}, {0}}} {
		if g, ok := impl.RenumberGraph(impl.Graph{}, lists[0], lists[1]); ok || !sameGraph(g, impl.Graph{}) {
			t.Error("renumbered", lists, g, ok)
		}
	}
}

func isPermutationOf(n int, list []int) bool {
	return slices.Equal(slices.Sorted(slices.Values(list)), elementsOf(n))
}

func TestComponents(t *testing.T) {
	for _, g := range slices.Concat(plainGraphs(3), tinyGraphs(), shapes()) {
		want, count := componentsOf(g)
		numbers, n, ok := impl.ComponentsOf(g)
		if !ok || n != count || !slices.Equal(numbers, want) {
			t.Fatal("components", g, numbers, n, ok, "not", want, count)
		}
	}
	for _, c := range []struct {
		g       impl.Graph
		numbers []int
		count   int
	}{
		{impl.Graph{}, nil, 0}, {graphWith(3, []int{0, 1, 2}, []int{2, 1, 0}), []int{0, 1, 2}, 3}, {graphWith(1, []int{0, 0}, []int{0}), []int{0}, 1},
		{chainGraph(impl.TmScale, 1, 3, 2), []int{0, 0, 0, 0, 1, 2}, 3}, {graphWith(4, []int{0, 1}, []int{0}, edgeOf(impl.TmDelay, []int{3}, []int{0}), edgeOf(impl.TmZero, nil, []int{2})), []int{0, 1, 2, 0}, 3},
		// The last edges make one component of three, and the components have the order of their least wires.
		{graphWith(6, nil, nil, edgeOf(impl.TmDelay, []int{5}, []int{4}), edgeOf(impl.TmDelay, []int{3}, []int{0}), edgeOf(impl.TmDelay, []int{2}, []int{2}), edgeOf(impl.TmAdd, []int{4, 1}, []int{3})), []int{0, 0, 1, 0, 0, 0}, 2},
	} {
		if numbers, n, ok := impl.ComponentsOf(c.g); !ok || n != c.count || !slices.Equal(numbers, c.numbers) {
			t.Error("components", c, numbers, n, ok)
		}
	}
	for _, g := range invalidGraphs() {
		if numbers, n, ok := impl.ComponentsOf(g); ok || n != 0 || len(numbers) > 0 {
			t.Error("components of an invalid graph", g, numbers, n)
		}
	}
}
