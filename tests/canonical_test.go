package tests

import (
	"math/big"
	"math/rand/v2"
	"slices"
	"testing"

	"loop.example/g01073/impl"
)

// This file tests P10 for canonical graphs, isomorphisms and automorphisms.

// checkCanonical compares what the program says of the canonical numbers of a graph with their definition.
func checkCanonical(t *testing.T, g impl.Graph) {
	t.Helper()
	wires, edges := canonicalOrder(g)
	wires, edges = inversePermutation(wires), inversePermutation(edges)
	gotWires, gotEdges, ok := impl.CanonicalNumbers(g)
	if !ok || !slices.Equal(gotWires, wires) || !slices.Equal(gotEdges, edges) {
		t.Fatal("canonical numbers", g, gotWires, gotEdges, ok, "not", wires, edges)
	}
	canonical, ok := impl.CanonicalGraph(g)
	checkGraph(t, canonical, ok, renumberedGraph(g, wires, edges), true, g, "canonical")
	parts := closedParts(g)
	closed, ok := impl.ClosedComponents(g)
	if !ok || len(closed) != len(parts) {
		t.Fatal("closed components", g, closed, ok)
	}
	for i, part := range parts {
		want := graphWith(len(part.wires), nil, nil)
		for _, edge := range part.edges {
			want.Edges = append(want.Edges, g.Edges[edge])
		}
		want = renamedGraph(want, want.Wires, func(w int) int { return slices.Index(part.wires, w) })
		checkGraph(t, closed[i], true, want, true, g, "closed component", i)
	}
}

// checkIsomorphism checks that two graphs are isomorphic, and that the isomorphism gives what has one canonical number.
func checkIsomorphism(t *testing.T, a, b impl.Graph) {
	t.Helper()
	if is, ok := impl.SameGraphs(a, b); !is || !ok {
		t.Fatal("graphs are not the same", a, b, is, ok)
	}
	m, ok := impl.IsomorphismOf(a, b)
	if is, checked := impl.IsIsomorphism(a, b, m); !ok || !is || !checked || !isIsomorphism(a, b, m) {
		t.Fatal("isomorphism", a, b, m, ok, is, checked)
	}
	firstWires, firstEdges := canonicalOrder(a)
	secondWires, secondEdges := canonicalOrder(b)
	for i, wire := range firstWires {
		if m.Wires[wire] != secondWires[i] {
			t.Fatal("isomorphism", a, b, m)
		}
	}
	for i, edge := range firstEdges {
		if m.Edges[edge] != secondEdges[i] {
			t.Fatal("isomorphism", a, b, m)
		}
	}
}

// checkDifferent checks that two graphs are not isomorphic, and that matches are no isomorphisms.
func checkDifferent(t *testing.T, a, b impl.Graph) {
	t.Helper()
	if is, ok := impl.SameGraphs(a, b); is || !ok {
		t.Fatal("graphs are the same", a, b, is, ok)
	}
	if m, ok := impl.IsomorphismOf(a, b); ok || len(m.Wires)+len(m.Edges) > 0 {
		t.Fatal("isomorphism of different graphs", a, b, m, ok)
	}
	for _, g := range []impl.Graph{a, b} {
		m := impl.Match{Wires: elementsOf(g.Wires), Edges: elementsOf(len(g.Edges))}
		if is, ok := impl.IsIsomorphism(a, b, m); is || !ok {
			t.Fatal("isomorphism of different graphs", a, b, m, is, ok)
		}
	}
}

// isomorphismsOf tries all ways to give wires and edges.
func isomorphismsOf(a, b impl.Graph) []impl.Match {
	var all []impl.Match
	for _, wires := range permutationsOf(elementsOf(a.Wires)) {
		for _, edges := range permutationsOf(elementsOf(len(a.Edges))) {
			if m := (impl.Match{Wires: wires, Edges: edges}); isIsomorphism(a, b, m) {
				all = append(all, m)
			}
		}
	}
	return all
}

// smallKinds are kinds for all small graphs.
func smallKinds() []int {
	return []int{impl.TmCopy, impl.TmDelay, impl.TmCocopy, impl.TmCozero, impl.TmCodiscard}
}

// TestAllSmallGraphs compares all graphs with some edges and inputs with one another, in all ways to give wires and edges.
func TestAllSmallGraphs(t *testing.T) {
	source := rand.New(rand.NewPCG(10, 4))
	for _, group := range monogamousGraphs(smallKinds(), 3, 4) {
		for _, g := range group {
			g = shuffledGraph(source, g)
			checkCanonical(t, g)
			if n, ok := impl.CountAutomorphisms(g); !ok || n != len(isomorphismsOf(g, g)) {
				t.Fatal("automorphisms", g, n, ok)
			}
			other := shuffledGraph(source, group[source.IntN(len(group))])
			if len(isomorphismsOf(g, other)) > 0 {
				checkIsomorphism(t, g, other)
			} else {
				checkDifferent(t, g, other)
			}
			checkIsomorphism(t, g, shuffledGraph(source, g))
		}
	}
}

// TestClassesOfSmallGraphs has as many canonical graphs as there are classes of isomorphic graphs.
func TestClassesOfSmallGraphs(t *testing.T) {
	groups := monogamousGraphs([]int{impl.TmCopy, impl.TmDelay, impl.TmCocopy}, 2, 4)
	classes := 0
	for _, group := range groups {
		var different []impl.Graph
		canonical := map[string]bool{}
		for _, g := range group {
			isKnown := func(other impl.Graph) bool { return len(isomorphismsOf(g, other)) > 0 }
			if !slices.ContainsFunc(different, isKnown) {
				different = append(different, g)
			}
			k, ok := impl.CanonicalGraph(g)
			if !ok {
				t.Fatal("no canonical graph", g)
			}
			canonical[writtenGraph(k)] = true
		}
		if len(canonical) != len(different) {
			t.Error("there are", len(canonical), "canonical graphs for", len(different), "classes of", group[0])
		}
		classes += len(different)
	}
	if classes < 100 {
		t.Error("there are but", classes, "classes")
	}
}

func TestCanonicalShapes(t *testing.T) {
	source := rand.New(rand.NewPCG(10, 5))
	for _, g := range monogamousShapes() {
		checkCanonical(t, g)
		want, _ := impl.CanonicalGraph(g)
		for range 2 {
			other := shuffledGraph(source, g)
			checkCanonical(t, other)
			k, ok := impl.CanonicalGraph(other)
			checkGraph(t, k, ok, want, true, g, "canonical with other numbers")
			checkIsomorphism(t, g, other)
		}
		again, ok := impl.CanonicalGraph(want)
		checkGraph(t, again, ok, canonicalOf(want), true, want, "canonical again")
		if !sameGraph(again, want) {
			t.Fatal("the canonical graph has another canonical graph", g, want, again)
		}
		checkIsomorphism(t, g, want)
	}
}

// nearGraphs returns graphs that differ from g in one Kind, in one Value, or in two wires that are exchanged in the lists where they begin or in those where they end.
func nearGraphs(source *rand.Rand, g impl.Graph) []impl.Graph {
	var near []impl.Graph
	plain := func(x int) int { return x }
	change := func(f func(h *impl.Graph)) {
		h := renamedGraph(g, g.Wires, plain)
		f(&h)
		near = append(near, shuffledGraph(source, h))
	}
	for i, e := range g.Edges {
		if leafTypes[e.Kind] == [2]int{1, 1} && source.IntN(len(g.Edges)) < 4 {
			change(func(h *impl.Graph) { h.Edges[i].Kind, h.Edges[i].Value = impl.TmCodelay, 0 })
			change(func(h *impl.Graph) { h.Edges[i].Kind, h.Edges[i].Value = impl.TmScale, (e.Value+1)%97 })
		}
	}
	for range 4 {
		if g.Wires < 2 {
			break
		}
		v, w := source.IntN(g.Wires), source.IntN(g.Wires)
		change(func(h *impl.Graph) { exchangeWires(h, v, w) })
	}
	return near
}

// exchangeWires exchanges two wires where they end.
func exchangeWires(g *impl.Graph, v, w int) {
	lists := [][]int{g.Out}
	for _, e := range g.Edges {
		lists = append(lists, e.In)
	}
	for _, list := range lists {
		for i, wire := range list {
			if wire == v {
				list[i] = w
			} else if wire == w {
				list[i] = v
			}
		}
	}
}

// TestNearGraphs has graphs that differ in little, which may still be the same.
func TestNearGraphs(t *testing.T) {
	source := rand.New(rand.NewPCG(10, 6))
	same, different := 0, 0
	for _, g := range monogamousShapes() {
		canonical := canonicalOf(g)
		for _, other := range nearGraphs(source, g) {
			if sameGraph(canonical, canonicalOf(other)) {
				same++
				checkIsomorphism(t, g, other)
			} else {
				different++
				checkDifferent(t, g, other)
			}
		}
	}
	if same < 50 || different < 500 {
		t.Error("there are but", same, "graphs that are the same and", different, "that are not")
	}
	graphs := monogamousShapes()
	for i, g := range graphs {
		other := graphs[(i+1)%len(graphs)]
		if !sameGraph(canonicalOf(g), canonicalOf(other)) {
			checkDifferent(t, g, other)
		}
	}
}

// TestExamplesOfNumbers has canonical numbers that are found by hand.
func TestExamplesOfNumbers(t *testing.T) {
	delay := func(in, out int) impl.Edge { return edgeOf(impl.TmDelay, []int{in}, []int{out}) }
	scale := func(factor, in, out int) impl.Edge { return scaleEdge(impl.TmScale, factor, in, out) }
	for _, c := range []struct {
		g            impl.Graph
		wires, edges []int
	}{
		{impl.Graph{}, nil, nil},
		{graphWith(2, []int{1, 0}, []int{0, 1}), []int{1, 0}, nil},
		{graphWith(4, []int{0}, []int{3}, edgeOf(impl.TmCopy, []int{0}, []int{1, 2}), edgeOf(impl.TmAdd, []int{1, 2}, []int{3})), []int{0, 2, 3, 1}, []int{0, 1}},
		// The walk goes through both ends of a chain, from In and from Out.
		{graphWith(3, []int{1}, []int{2}, delay(1, 0), delay(0, 2)), []int{2, 0, 1}, []int{0, 1}}, {graphWith(2, nil, nil, edgeOf(impl.TmZero, nil, []int{1}), delay(1, 0), edgeOf(impl.TmDiscard, []int{0}, nil)), []int{0, 1}, []int{2, 1, 0}},
		// Out alone has numbers at first, and the walk goes against the edges.
		{graphWith(3, nil, []int{2}, edgeOf(impl.TmZero, nil, []int{0}), delay(1, 2), delay(0, 1)), []int{2, 1, 0}, []int{2, 0, 1}},
		// The inputs of an edge get numbers before its outputs.
		{graphWith(4, []int{3}, []int{0, 1}, edgeOf(impl.TmCopy, []int{2}, []int{0, 1}), delay(3, 2)), []int{1, 2, 3, 0}, []int{1, 0}},
		// A closed component follows behind what is connected to the interface.
		{graphWith(3, []int{2}, []int{1}, delay(0, 0), delay(2, 1)), []int{2, 1, 0}, []int{1, 0}},
		// A loop is before a ring of two, as it has the output wire 0, and the ring begins with its first edge.
		{graphWith(3, nil, nil, delay(0, 1), delay(1, 0), delay(2, 2)), []int{1, 2, 0}, []int{1, 2, 0}}, {graphWith(3, nil, nil, delay(1, 0), delay(0, 1), delay(2, 2)), []int{2, 1, 0}, []int{1, 2, 0}},
		// Kinds and Values come first in a code.
		{graphWith(2, nil, nil, delay(0, 0), scale(5, 1, 1)), []int{1, 0}, []int{1, 0}}, {graphWith(2, nil, nil, scale(5, 0, 1), scale(3, 1, 0)), []int{1, 0}, []int{1, 0}}, {graphWith(3, nil, nil, scale(2, 2, 2), scale(1, 0, 1), scale(2, 1, 0)), []int{0, 1, 2}, []int{2, 0, 1}},
		// Equal codes follow in the order of their least wires, not in that of their edges.
		{graphWith(2, nil, nil, delay(1, 1), delay(0, 0)), []int{0, 1}, []int{1, 0}}, {graphWith(4, nil, nil, delay(1, 3), delay(2, 0), delay(0, 2), delay(3, 1)), []int{1, 2, 0, 3}, []int{2, 0, 1, 3}},
	} {
		wires, edges, ok := impl.CanonicalNumbers(c.g)
		if !ok || !slices.Equal(wires, c.wires) || !slices.Equal(edges, c.edges) {
			t.Error("canonical numbers", c, wires, edges, ok)
		}
	}
}

// TestGraphsThatAreNotMonogamous checks that they have no canonical numbers.
func TestGraphsThatAreNotMonogamous(t *testing.T) {
	graphs, through := invalidGraphs(), graphWith(1, []int{0}, []int{0})
	for _, g := range slices.Concat(plainGraphs(2), tinyGraphs(), shapes()) {
		if !isMonogamous(g) {
			graphs = append(graphs, g)
		}
	}
	for _, g := range graphs {
		wires, edges, isNumbered := impl.CanonicalNumbers(g)
		canonical, isCanonical := impl.CanonicalGraph(g)
		closed, isClosed := impl.ClosedComponents(g)
		n, isCounted := impl.CountAutomorphisms(g)
		if isNumbered || isCanonical || isClosed || isCounted || len(wires)+len(edges)+len(closed)+n > 0 || !sameGraph(canonical, impl.Graph{}) {
			t.Fatal("a graph that is not monogamous has canonical numbers", g)
		}
		m := impl.Match{Wires: elementsOf(max(0, min(g.Wires, 200))), Edges: elementsOf(len(g.Edges))}
		for _, pair := range [][2]impl.Graph{{g, g}, {g, through}, {through, g}} {
			same, isCompared := impl.SameGraphs(pair[0], pair[1])
			found, isFound := impl.IsomorphismOf(pair[0], pair[1])
			is, isChecked := impl.IsIsomorphism(pair[0], pair[1], m)
			if same || isCompared || isFound || is || isChecked || len(found.Wires)+len(found.Edges) > 0 {
				t.Fatal("a graph that is not monogamous is isomorphic", pair)
			}
		}
	}
}

// TestAllMatchesOfSmallGraphs asks for all lists of numbers whether they are an isomorphism.
func TestAllMatchesOfSmallGraphs(t *testing.T) {
	ring := shuffledGraph(rand.New(rand.NewPCG(10, 7)), allBeside(ringGraph(impl.TmDelay, 0, 2), ringGraph(impl.TmDelay, 0, 1)))
	copies := graphWith(3, []int{0}, []int{1, 2}, edgeOf(impl.TmCopy, []int{0}, []int{1, 2}))
	through := graphWith(3, []int{0, 2, 1}, []int{1, 0, 2})
	pairs := [][2]impl.Graph{{ring, ring}, {copies, copies}, {copies, graphWith(3, []int{0}, []int{2, 1}, edgeOf(impl.TmCopy, []int{0}, []int{1, 2}))}, {copies, shuffledGraph(rand.New(rand.NewPCG(1, 7)), copies)}, {through, through}, {ring, through}, {through, ring}, {impl.Graph{}, impl.Graph{}}, {impl.Graph{}, copies}, {copies, impl.Graph{}}}
	for _, pair := range pairs {
		a, b := pair[0], pair[1]
		for n := range 5 {
			for _, wires := range argumentLists([]int{-1, 0, 1, 2, 3}, n) {
				for _, edges := range interfacesOf(3, 3) {
					m := impl.Match{Wires: wires, Edges: edges}
					if is, ok := impl.IsIsomorphism(a, b, m); !ok || is != isIsomorphism(a, b, m) {
						t.Fatal("isomorphism", a, b, m, is, ok)
					}
				}
			}
		}
	}
}

// automorphismsOf multiplies great integers.
func automorphismsOf(g impl.Graph) *big.Int {
	count := big.NewInt(1)
	equal := 0
	parts := closedParts(g)
	for i, part := range parts {
		if i == 0 || !slices.Equal(part.code, parts[i-1].code) {
			equal = 0
		}
		equal++
		count.Mul(count, big.NewInt(int64(equal*part.ways)))
	}
	return count
}

func TestAutomorphisms(t *testing.T) {
	limit := big.NewInt(1000000000)
	for _, g := range append(monogamousShapes(), symmetricGraphs()...) {
		want := automorphismsOf(g)
		n, ok := impl.CountAutomorphisms(g)
		if ok != (want.Cmp(limit) <= 0) || ok && int64(n) != want.Int64() || !ok && n != 0 {
			t.Fatal("automorphisms", g, n, ok, "not", want)
		}
	}
	source := rand.New(rand.NewPCG(10, 8))
	delays := func(n int) impl.Graph { return ringGraph(impl.TmDelay, 0, n) }
	cut := graphWith(1, nil, nil, edgeOf(impl.TmZero, nil, []int{0}), edgeOf(impl.TmCozero, []int{0}, nil))
	for _, c := range []struct {
		g impl.Graph
		n int
	}{
		{impl.Graph{}, 1}, {graphWith(2, []int{0, 1}, []int{1, 0}), 1}, {widestIdentity(), 1}, {chainGraph(impl.TmDelay, 0, 60, 11), 1}, {cut, 1}, {copiesOf(3, cut), 6},
		{delays(1), 1}, {delays(2), 2}, {delays(60), 60}, {copiesOf(2, delays(30)), 1800}, {copiesOf(12, delays(1)), 479001600}, {copiesOf(13, delays(1)), 0}, {copiesOf(60, delays(1)), 0}, {copiesOf(30, delays(2)), 0},
		{allBeside(delays(4), delays(2), ringGraph(impl.TmCodelay, 0, 4)), 32}, {besideGraphs(copiesOf(3, delays(2)), chainGraph(impl.TmDelay, 0, 2, 1)), 48},
		// 2^9 * 5^9 automorphisms are the most; 2^16 * 3^7 * 7 are too many.
		{allBeside(ringsOf(4, 5, 2, 0), ringsOf(1, 5, 1, 4), ringsOf(5, 1, 2, 5)), 1000000000}, {allBeside(ringsOf(16, 2, 1, 0), ringsOf(7, 3, 1, 16), delays(7)), 0},
	} {
		n, ok := impl.CountAutomorphisms(shuffledGraph(source, c.g))
		if ok != (c.n > 0) || n != c.n {
			t.Error("automorphisms", c, n, ok)
		}
	}
}

// widestIdentity returns the graph of 12 wires that pass through.
func widestIdentity() impl.Graph { return graphWith(12, elementsOf(12), elementsOf(12)) }

func TestExamplesOfClosedComponents(t *testing.T) {
	for _, c := range []struct{ text, closed string }{
		{"0||", ""}, {"1|0|0", ""}, {"4|0|3|copy(0>1,2)|add(1,2>3)", ""}, {"1|||zero(>0)|cozero(0>)", "1|||zero(>0)|cozero(0>)"}, {"1|||cozero(0>)|zero(>0)", "1|||zero(>0)|cozero(0>)"},
		{"4|3|2|delay(1>1)|scale:2(0>0)|scale:1(3>2)", "1|||scale:2(0>0) 1|||delay(0>0)"}, {"3|||delay(0>1)|delay(1>0)|delay(2>2)", "1|||delay(0>0) 2|||delay(0>1)|delay(1>0)"}, {"2|||delay(1>1)|delay(0>0)", "1|||delay(0>0) 1|||delay(0>0)"}, {"3|||add(0,2>1)|copy(1>2,0)", "3|||copy(0>1,2)|add(2,1>0)"},
	} {
		g, isGraph := impl.ParseGraph(c.text)
		closed, ok := impl.ClosedComponents(g)
		text := ""
		for i, part := range closed {
			if i > 0 {
				text += " "
			}
			text += writtenGraph(part)
		}
		if !isGraph || !ok || text != c.closed {
			t.Errorf("closed components of %q: %q %v", c.text, text, ok)
		}
	}
}
