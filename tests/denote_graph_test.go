package tests

import (
	"math"
	"math/rand/v2"
	"slices"
	"testing"

	"loop.example/g01073/impl"
)

// This file tests P8 for graphs and their valuations.

func TestGraphsToTestWith(t *testing.T) {
	for _, c := range append(smallGraphs(), wideGraphs()...) {
		if !hasRelation(c.p, c.g) {
			t.Error("an invalid graph", c)
		}
	}
	for _, g := range invalidGraphs() {
		if isGraph(g) {
			t.Error("a valid graph among the invalid ones", g)
		}
	}
}

// wideGraphs returns graphs with more wires, up to the limits.
func wideGraphs() []graphCase {
	var cases []graphCase
	source := rand.New(rand.NewPCG(8, 10))
	for _, p := range []int{2, 3, 7} {
		for _, size := range [][3]int{{5, 3, 3}, {10, 6, 4}, {12, 14, 5}, {20, 8, 12}, {30, 20, 12}} {
			for range 4 {
				cases = append(cases, graphCase{p, randomGraph(source, p, size[0], size[1], size[2])})
			}
		}
	}
	for _, p := range []int{2, 5} {
		cases = append(cases, graphCase{p, widestGraph()}, graphCase{p, chainGraph(impl.TmScale, 1, 60, 11)}, graphCase{p, chainGraph(impl.TmCoscale, p-1, 60, 11)}, graphCase{p, chainGraph(impl.TmScale, 0, 60, 0)})
	}
	return append(cases, graphCase{97, chainGraph(impl.TmScale, 5, 10, 2)}, graphCase{97, chainGraph(impl.TmCoscale, 96, 10, 2)})
}

// TestSmallGraphs compares everything that is said of a small graph with all lists that have an element for each wire.
func TestSmallGraphs(t *testing.T) {
	for _, c := range smallGraphs() {
		p, g := c.p, c.g
		var pairs [][]int
		first := map[string][]int{}
		for _, v := range argumentLists(elementsOf(p), g.Wires) {
			want := solves(p, g, v)
			if is, ok := impl.IsValuation(p, g, v); !ok || is != want {
				t.Fatal("valuation", c, v, is, ok)
			}
			if !want {
				continue
			}
			pair := openElements(g, v)
			pairs = append(pairs, pair)
			if key := keyOf([][]int{pair}); first[key] == nil {
				first[key] = append([]int{}, v...)
			}
		}
		if r, ok := impl.DenoteGraph(p, g); !ok || !hasExactly(p, r, len(g.In), len(g.Out), pairs) {
			t.Fatal("relation of a graph", c, r, ok)
		}
		for _, xy := range argumentLists(elementsOf(p), len(g.In)+len(g.Out)) {
			want := first[keyOf([][]int{xy})]
			v, ok := impl.WireValues(p, g, xy[:len(g.In)], xy[len(g.In):])
			if ok != (want != nil) || !slices.Equal(v, want) {
				t.Fatal("values of wires", c, xy, v, ok, "not", want)
			}
		}
	}
}

func TestWideGraphs(t *testing.T) {
	source := rand.New(rand.NewPCG(8, 11))
	for _, c := range wideGraphs() {
		want := relationOfGraph(c.p, c.g)
		r, ok := impl.DenoteGraph(c.p, c.g)
		if !ok || !sameRelation(r, want) {
			t.Fatal("relation of a graph", c, r, ok, "not", want)
		}
		n := len(c.g.In)
		for range 3 {
			inside := listTimes(c.p, randomList(source, c.p, len(r.Basis)), impl.Matrix{Cols: n + len(c.g.Out), Rows: r.Basis})
			for _, xy := range [][]int{inside, randomList(source, c.p, len(inside)), zeros(len(inside))} {
				first, found := firstSolution(c.p, c.g, xy)
				v, ok := impl.WireValues(c.p, c.g, xy[:n], xy[n:])
				if ok != found || !slices.Equal(v, first) {
					t.Fatal("values of wires", c, xy, v, ok, "not", first, found)
				}
				if is, isList := impl.IsValuation(c.p, c.g, first); found && (!is || !isList) {
					t.Fatal("no valuation", c, first, is, isList)
				}
			}
			v, _ := firstSolution(c.p, c.g, inside)
			for wire := range v {
				v[wire] = (v[wire] + 1) % c.p
				if is, ok := impl.IsValuation(c.p, c.g, v); !ok || is != solves(c.p, c.g, v) {
					t.Fatal("valuation", c, v, is, ok)
				}
				v[wire] = (v[wire] + c.p - 1) % c.p
			}
		}
	}
}

type openCase struct {
	termCase
	g impl.Graph
}

// casesWithGraphs returns terms without delays that have graphs, each one with its graph.
func casesWithGraphs(t *testing.T) []openCase {
	t.Helper()
	var cases []openCase
	for _, c := range staticCases() {
		if g, ok := impl.GraphOf(c.t); ok {
			cases = append(cases, openCase{c, g})
		}
	}
	if len(cases) < 500 {
		t.Fatal("there are but", len(cases), "terms with graphs")
	}
	return cases
}

// TestPairsComeWithValuations checks that the pairs of the relation of a term are those with a valuation of its graph.
func TestPairsComeWithValuations(t *testing.T) {
	source := rand.New(rand.NewPCG(8, 12))
	for _, c := range casesWithGraphs(t) {
		g := c.g
		r := relationOfTerm(t, c.p, c.t)
		if same, ok := impl.DenoteGraph(c.p, g); !ok || !sameRelation(same, r) {
			t.Fatal("relations of a term and of its graph", c, r, same, ok)
		}
		lists := append(slices.Clone(r.Basis), zeros(r.Left+r.Right))
		for range 4 {
			lists = append(lists, randomList(source, c.p, r.Left+r.Right))
		}
		for _, xy := range lists {
			x, y := xy[:r.Left], xy[r.Left:]
			is, ok := impl.HasPair(c.p, r, x, y)
			v, found := impl.WireValues(c.p, g, x, y)
			if !ok || found != is || found && !slices.Equal(openElements(g, v), xy) {
				t.Fatal("values of wires", c, x, y, v, found, is)
			}
			if !found {
				continue
			}
			if is, ok := impl.IsValuation(c.p, g, v); !is || !ok || !solves(c.p, g, v) {
				t.Fatal("no valuation", c, v, is, ok)
			}
		}
	}
}

func TestExamplesOfValuations(t *testing.T) {
	double := graphWith(4, []int{0}, []int{3}, edgeOf(impl.TmCopy, []int{0}, []int{1, 2}), edgeOf(impl.TmAdd, []int{1, 2}, []int{3}))
	// The wires 0 and 1 have the sum 1; the wires 2 and 3 are free, and the wire 4 is twice the wire 3.
	sums := graphWith(6, nil, []int{5}, edgeOf(impl.TmAdd, []int{0, 1}, []int{5}), edgeOf(impl.TmDiscard, []int{2}, nil), scaleEdge(impl.TmScale, 2, 3, 4))
	for _, c := range []struct {
		g          impl.Graph
		x, y, want []int
		ok         bool
	}{
		{double, []int{3}, []int{1}, []int{3, 3, 3, 1}, true}, {double, []int{3}, []int{2}, nil, false}, {double, []int{0}, []int{0}, []int{0, 0, 0, 0}, true},
		{sums, nil, []int{1}, []int{0, 1, 0, 0, 0, 1}, true}, {sums, nil, []int{0}, zeros(6), true}, {impl.Graph{}, nil, nil, nil, true}, {graphWith(1, []int{0}, []int{0}), []int{2}, []int{2}, []int{2}, true}, {graphWith(1, []int{0}, []int{0}), []int{2}, []int{1}, nil, false}, {graphWith(1, []int{0, 0}, nil), []int{4, 4}, nil, []int{4}, true}, {graphWith(1, []int{0, 0}, nil), []int{4, 3}, nil, nil, false},
	} {
		if v, ok := impl.WireValues(5, c.g, c.x, c.y); ok != c.ok || !slices.Equal(v, c.want) {
			t.Error("values of wires", c, v, ok)
		}
	}
	for _, v := range [][]int{{3, 3, 3, 1}, {0, 0, 0, 0}, {3, 3, 3, 2}, {3, 3, 2, 0}, {1, 3, 3, 1}} {
		if is, ok := impl.IsValuation(5, double, v); !ok || is != (v[0] == v[1] && v[1] == v[2] && 2*v[0]%5 == v[3]) {
			t.Error("valuation", v, is, ok)
		}
	}
	if is, ok := impl.IsValuation(5, impl.Graph{}, nil); !is || !ok {
		t.Error("valuation without wires", is, ok)
	}
	if r, ok := impl.DenoteGraph(5, impl.Graph{}); !ok || !sameRelation(r, relationOf(0, 0)) {
		t.Error("relation without wires", r, ok)
	}
}

// TestListsThatAreNoElementsOfWires gives lists of wrong lengths and with numbers that are no elements.
func TestListsThatAreNoElementsOfWires(t *testing.T) {
	double := graphWith(4, []int{0}, []int{3}, edgeOf(impl.TmCopy, []int{0}, []int{1, 2}), edgeOf(impl.TmAdd, []int{1, 2}, []int{3}))
	for _, v := range [][]int{nil, {}, {0, 0, 0}, {0, 0, 0, 0, 0}, {5, 0, 0, 0}, {0, 0, 0, 5}, {0, -1, 0, 0}, {0, 0, math.MaxInt, 0}, {math.MinInt, 0, 0, 0}, make([]int, 100000)} {
		if is, ok := impl.IsValuation(5, double, v); is || ok {
			t.Error("valuation", len(v), is, ok)
		}
	}
	for _, bad := range [][]int{nil, {}, {0, 0}, {5}, {-1}, {math.MaxInt}, {math.MinInt}, make([]int, 100000)} {
		for _, xy := range [][2][]int{{bad, {0}}, {{0}, bad}, {bad, bad}} {
			if v, ok := impl.WireValues(5, double, xy[0], xy[1]); ok || len(v) > 0 {
				t.Error("values of wires", len(bad), v, ok)
			}
		}
	}
}

// checkNoRelation checks that a graph has no relation over p, and no valuations.
func checkNoRelation(t *testing.T, p int, g impl.Graph) {
	t.Helper()
	if r, ok := impl.DenoteGraph(p, g); ok || !sameRelation(r, impl.Relation{}) {
		t.Error("relation of a graph", p, g, r, ok)
	}
	if is, ok := impl.IsValuation(p, g, zeros(min(max(g.Wires, 0), 1000))); is || ok {
		t.Error("valuation of a graph", p, g, is, ok)
	}
	if v, ok := impl.WireValues(p, g, zeros(len(g.In)), zeros(len(g.Out))); ok || len(v) > 0 {
		t.Error("values of wires of a graph", p, g, v, ok)
	}
}

func TestGraphsWithoutRelations(t *testing.T) {
	for _, g := range invalidGraphs() {
		checkNoRelation(t, 97, g)
	}
	for _, kind := range []int{impl.TmDelay, impl.TmCodelay} {
		delay := edgeOf(kind, []int{0}, []int{1})
		for _, g := range []impl.Graph{graphWith(2, []int{0}, []int{1}, delay), graphWith(2, []int{0, 1}, nil, edgeOf(impl.TmDiscard, []int{0}, nil), delay), graphWith(2, nil, nil, delay, scaleEdge(impl.TmScale, 1, 1, 0)), chainGraph(kind, 0, 60, 0)} {
			checkNoRelation(t, 5, g)
		}
	}
	for _, kind := range []int{impl.TmScale, impl.TmCoscale} {
		g := graphWith(3, []int{0}, []int{2}, scaleEdge(impl.TmScale, 1, 0, 1), scaleEdge(kind, 5, 1, 2))
		checkNoRelation(t, 5, g)
		checkNoRelation(t, 3, g)
		if r, ok := impl.DenoteGraph(7, g); !ok || len(r.Basis) != 1 {
			t.Error("relation of a graph", g, r, ok)
		}
	}
	for _, p := range []int{math.MinInt, -5, 0, 1, 4, 96, 98, 101, math.MaxInt} {
		checkNoRelation(t, p, impl.Graph{})
		checkNoRelation(t, p, graphWith(1, []int{0}, []int{0}))
	}
}

// TestLimitsOfDenotedGraphs meets each limit of a graph exactly and passes it by one.
func TestLimitsOfDenotedGraphs(t *testing.T) {
	copies := func(wires, edges int) impl.Graph {
		g := graphWith(wires, elementsOf(min(wires, 12)), nil)
		for i := range edges {
			g.Edges = append(g.Edges, edgeOf(impl.TmCopy, []int{i % wires}, []int{(i + edges) % wires, (i + 2*edges) % wires}))
		}
		return g
	}
	for _, c := range []struct {
		g  impl.Graph
		ok bool
	}{
		{copies(99, 60), true}, {copies(100, 60), true}, {copies(101, 60), false}, {copies(100, 59), true}, {copies(100, 61), false}, {widestGraph(), true}, {chainGraph(impl.TmScale, 1, 60, 11), true}, {chainGraph(impl.TmScale, 1, 60, 12), false}, {chainGraph(impl.TmScale, 1, 61, 11), false},
		{graphWith(12, elementsOf(12), elementsOf(12)), true}, {graphWith(13, elementsOf(13), nil), false}, {graphWith(1, zeros(12), zeros(12)), true}, {graphWith(1, zeros(13), nil), false}, {graphWith(1, nil, zeros(13)), false},
	} {
		if hasRelation(97, c.g) != c.ok {
			t.Fatal("the graph is not as said", c)
		}
		r, ok := impl.DenoteGraph(97, c.g)
		if ok != c.ok || ok && (r.Left != len(c.g.In) || r.Right != len(c.g.Out)) {
			t.Error("relation of a graph", c, r, ok)
		}
		if is, ok := impl.IsValuation(97, c.g, zeros(c.g.Wires)); is != c.ok || ok != c.ok {
			t.Error("valuation of a graph", c, is, ok)
		}
		if v, ok := impl.WireValues(97, c.g, zeros(len(c.g.In)), zeros(len(c.g.Out))); ok != c.ok || ok && !slices.Equal(v, zeros(c.g.Wires)) {
			t.Error("values of wires of a graph", c, v, ok)
		}
	}
}
