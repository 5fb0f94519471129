package tests

import (
	"math"
	"math/rand/v2"
	"slices"
	"testing"

	"loop.example/g01073/impl"
)

// This file tests P9 for graphs that are glued.

// checkGraph compares a graph that the program returns with the one that is to be returned, if that one is valid and there is one.
func checkGraph(t *testing.T, g impl.Graph, ok bool, want impl.Graph, exists bool, of ...any) {
	t.Helper()
	exists = exists && isGraph(want)
	if !exists {
		want = impl.Graph{}
	}
	if ok != exists || !sameGraph(g, want) {
		t.Fatal("graph of", of, g, ok, "not", want, exists)
	}
}

// checkGraphJoins compares the composition and the juxtaposition of two valid graphs with their definitions.
func checkGraphJoins(t *testing.T, a, b impl.Graph) {
	t.Helper()
	fit := len(a.Out) == len(b.In)
	var want impl.Graph
	if fit {
		want = composedGraphs(a, b)
	}
	g, ok := impl.SeqGraphs(a, b)
	checkGraph(t, g, ok, want, fit, a, "composed with", b)
	g, ok = impl.ParGraphs(a, b)
	checkGraph(t, g, ok, besideGraphs(a, b), true, a, "beside", b)
}

func TestJoinedGraphs(t *testing.T) {
	plain, tiny, graphs := plainGraphs(2), tinyGraphs(), shapes()
	for _, a := range plain {
		for _, b := range plain {
			checkGraphJoins(t, a, b)
		}
	}
	source := rand.New(rand.NewPCG(9, 2))
	for range 4000 {
		checkGraphJoins(t, tiny[source.IntN(len(tiny))], tiny[source.IntN(len(tiny))])
	}
	for _, a := range graphs {
		for range 60 {
			checkGraphJoins(t, a, graphs[source.IntN(len(graphs))])
		}
	}
	repeated := plainGraphs(3)
	for range 4000 {
		checkGraphJoins(t, repeated[source.IntN(len(repeated))], repeated[source.IntN(len(repeated))])
	}
}

// TestExamplesOfGluing has wires that become one through others, classes that are left out, and wires in both ends.
func TestExamplesOfGluing(t *testing.T) {
	one, through := []int{0}, graphWith(1, []int{0}, []int{0})
	for _, c := range []struct{ a, b, want impl.Graph }{
		{impl.Graph{}, impl.Graph{}, impl.Graph{}}, {through, through, through},
		{graphWith(1, nil, one), graphWith(1, one, nil), impl.Graph{}},
		{graphWith(1, nil, []int{0, 0}), graphWith(2, []int{0, 1}, []int{1, 0}), graphWith(1, nil, []int{0, 0})},
		{graphWith(2, []int{0, 1}, []int{0, 1}), graphWith(1, []int{0, 0}, nil), graphWith(1, []int{0, 0}, nil)},
		{graphWith(2, []int{0, 1}, []int{0, 0, 1}), graphWith(2, []int{0, 1, 1}, []int{0, 1}), graphWith(1, []int{0, 0}, []int{0, 0})},
		{graphWith(2, one, []int{1, 0}), graphWith(2, []int{1, 0}, one), graphWith(1, one, one)},
		// The class of the wires 1 and 2 is left out, and the wire 3 becomes 1.
		{graphWith(2, one, []int{1}), graphWith(2, one, []int{1}), graphWith(2, one, []int{1})},
		// The class of the wires 0 and 4 has the least wire 0, though this one is in no other list of its graph.
		{graphWith(3, []int{1, 2}, []int{0, 2}), graphWith(3, []int{1, 0}, []int{1, 2}), graphWith(4, []int{1, 2}, []int{0, 3})},
		{graphWith(2, one, []int{1}, scaleEdge(impl.TmScale, 3, 0, 1)), graphWith(2, []int{1}, one, edgeOf(impl.TmCodelay, []int{1}, one)), graphWith(3, one, []int{2}, scaleEdge(impl.TmScale, 3, 0, 1), edgeOf(impl.TmCodelay, []int{1}, []int{2}))},
		{graphWith(3, one, []int{1, 2}, edgeOf(impl.TmCopy, one, []int{1, 2})), graphWith(1, []int{0, 0}, one), graphWith(2, one, []int{1}, edgeOf(impl.TmCopy, one, []int{1, 1}))},
	} {
		g, ok := impl.SeqGraphs(c.a, c.b)
		if !ok || !sameGraph(g, c.want) {
			t.Error("composition", c.a, c.b, g, ok, "not", c.want)
		}
	}
	for _, c := range []struct{ a, b, want impl.Graph }{
		{impl.Graph{}, impl.Graph{}, impl.Graph{}}, {through, impl.Graph{}, through}, {impl.Graph{}, through, through}, {through, through, graphWith(2, []int{0, 1}, []int{0, 1})},
		{graphWith(2, []int{1, 0}, nil), graphWith(2, nil, []int{1, 0}, scaleEdge(impl.TmScale, 2, 0, 1)), graphWith(4, []int{1, 0}, []int{3, 2}, scaleEdge(impl.TmScale, 2, 2, 3))},
	} {
		if g, ok := impl.ParGraphs(c.a, c.b); !ok || !sameGraph(g, c.want) {
			t.Error("juxtaposition", c.a, c.b, g, ok, "not", c.want)
		}
	}
}

// TestLimitsOfJoinedGraphs meets each limit exactly and passes it by one; what is glued may have more wires before.
func TestLimitsOfJoinedGraphs(t *testing.T) {
	delays := func(n, beside int) impl.Graph { return chainGraph(impl.TmDelay, 0, n, beside) }
	wide := func(wires int) impl.Graph {
		g := graphWith(wires, nil, nil)
		for i := range wires / 2 {
			g.Edges = append(g.Edges, edgeOf(impl.TmDelay, []int{2 * i}, []int{2*i + 1}))
		}
		if wires%2 == 1 {
			g.In = []int{wires - 1}
		}
		return g
	}
	open := func(n int) impl.Graph { return graphWith(n, elementsOf(n), elementsOf(n)) }
	for _, c := range []struct {
		a, b       impl.Graph
		isSeq, seq bool
		par        bool
	}{
		{delays(30, 0), delays(30, 0), true, true, true}, {delays(30, 0), delays(31, 0), true, false, false}, {delays(60, 11), impl.Graph{}, false, false, true}, {delays(60, 11), open(12), true, true, false}, {delays(1, 0), delays(60, 0), true, false, false}, {delays(59, 0), delays(1, 0), true, true, true},
		{wide(60), wide(40), true, true, true}, {wide(60), wide(41), false, false, false}, {wide(61), wide(40), true, false, false}, {wide(61), wide(39), false, false, true}, {wide(40), wide(61), false, false, false}, {besideGraphs(wide(88), open(12)), open(12), true, true, false}, {besideGraphs(wide(88), open(12)), delays(1, 11), true, false, false}, {besideGraphs(wide(86), open(12)), delays(2, 11), true, true, false}, {wide(100), impl.Graph{}, true, true, true}, {wide(100), open(1), false, false, false}, {wide(100), wide(10), true, false, false},
		{open(12), impl.Graph{}, false, false, true}, {open(6), open(6), true, true, true}, {open(6), open(7), false, false, false}, {open(12), open(12), true, true, false},
		{graphWith(7, elementsOf(7), nil), graphWith(6, nil, elementsOf(6)), true, true, true}, {graphWith(7, elementsOf(7), nil), graphWith(6, elementsOf(6), nil), false, false, false}, {graphWith(6, nil, elementsOf(6)), graphWith(7, nil, elementsOf(7)), false, false, false}, {graphWith(1, zeros(12), zeros(12)), graphWith(1, nil, nil, edgeOf(impl.TmDelay, []int{0}, []int{0})), false, false, true},
		{widestGraph(), open(12), true, true, false}, {open(12), widestGraph(), true, true, false},
	} {
		if (len(c.a.Out) == len(c.b.In)) != c.isSeq {
			t.Fatal("the graphs are not as said", c)
		}
		if g, ok := impl.SeqGraphs(c.a, c.b); ok != c.seq || !ok && !sameGraph(g, impl.Graph{}) {
			t.Error("composition", c, g, ok)
		}
		if g, ok := impl.ParGraphs(c.a, c.b); ok != c.par || !ok && !sameGraph(g, impl.Graph{}) {
			t.Error("juxtaposition", c, g, ok)
		}
		checkGraphJoins(t, c.a, c.b)
	}
}

func TestIdentityGraphs(t *testing.T) {
	for n := -2; n <= 14; n++ {
		g, ok := impl.IdentityGraph(n)
		if n < 0 || n > maxWires {
			checkGraph(t, g, ok, impl.Graph{}, false, n)
			continue
		}
		checkGraph(t, g, ok, graphWith(n, elementsOf(n), elementsOf(n)), true, n)
		same, isTerm := impl.GraphOf(idTerm(n))
		checkGraph(t, same, isTerm, g, true, n)
		for _, a := range shapes() {
			if len(a.Out) != n {
				continue
			}
			if behind, ok := impl.SeqGraphs(a, g); !ok || len(behind.Edges) != len(a.Edges) || behind.Wires > a.Wires {
				t.Fatal("composition with the identity", a, behind, ok)
			}
		}
	}
	for _, n := range []int{math.MinInt, 13, 1 << 32, math.MaxInt} {
		g, ok := impl.IdentityGraph(n)
		checkGraph(t, g, ok, impl.Graph{}, false, n)
	}
}

func TestTraces(t *testing.T) {
	for _, g := range slices.Concat(plainGraphs(3), tinyGraphs(), shapes()) {
		longest := min(len(g.In), len(g.Out))
		for k := -1; k <= longest+1; k++ {
			var want impl.Graph
			exists := k >= 0 && k <= longest
			if exists {
				want = tracedGraph(g, k)
			}
			traced, ok := impl.TraceGraph(g, k)
			checkGraph(t, traced, ok, want, exists, g, "traced", k)
		}
	}
	one, swap := []int{0}, graphWith(2, []int{0, 1}, []int{1, 0})
	for _, c := range []struct {
		g    impl.Graph
		k    int
		want impl.Graph
	}{
		{swap, 0, swap}, {swap, 1, graphWith(1, one, one)}, {swap, 2, impl.Graph{}}, {graphWith(1, one, one), 1, impl.Graph{}},
		// The wires 0, 1 and 2 become one through one another.
		{graphWith(4, []int{3, 0, 1}, []int{3, 1, 2}), 2, graphWith(1, one, one)}, {graphWith(4, []int{2, 0, 1}, []int{3, 1, 2}), 2, graphWith(2, one, []int{1})},
		{graphWith(3, []int{0, 1}, []int{2}, edgeOf(impl.TmAdd, []int{0, 1}, []int{2})), 1, graphWith(2, one, nil, edgeOf(impl.TmAdd, []int{0, 1}, []int{1}))},
		{graphWith(3, []int{1, 0, 0}, []int{2}), 1, graphWith(2, []int{1, 0}, nil)},
	} {
		g, ok := impl.TraceGraph(c.g, c.k)
		checkGraph(t, g, ok, c.want, true, c.g, "traced", c.k)
	}
	for _, k := range []int{math.MinInt, -1, 3, 13, 1 << 32, math.MaxInt} {
		g, ok := impl.TraceGraph(swap, k)
		checkGraph(t, g, ok, impl.Graph{}, false, "traced", k)
	}
}

func TestMergedWires(t *testing.T) {
	for _, g := range slices.Concat(plainGraphs(2), tinyGraphs(), shapes()) {
		for v := -1; v <= g.Wires; v++ {
			step := max(1, g.Wires/5)
			for w := -1; w <= g.Wires; w += step {
				var want impl.Graph
				exists := min(v, w) >= 0 && max(v, w) < g.Wires
				if exists {
					want = madeOne(g, [][2]int{{v, w}})
				}
				merged, ok := impl.MergeWires(g, v, w)
				checkGraph(t, merged, ok, want, exists, g, "with one wire", v, w)
			}
		}
	}
	add := graphWith(3, []int{0, 1}, []int{2}, edgeOf(impl.TmAdd, []int{0, 1}, []int{2}))
	for _, c := range []struct {
		v, w int
		want impl.Graph
	}{
		{0, 1, graphWith(2, []int{0, 0}, []int{1}, edgeOf(impl.TmAdd, []int{0, 0}, []int{1}))}, {1, 0, graphWith(2, []int{0, 0}, []int{1}, edgeOf(impl.TmAdd, []int{0, 0}, []int{1}))},
		{2, 0, graphWith(2, []int{0, 1}, []int{0}, edgeOf(impl.TmAdd, []int{0, 1}, []int{0}))}, {1, 1, add},
	} {
		g, ok := impl.MergeWires(add, c.v, c.w)
		checkGraph(t, g, ok, c.want, true, add, "with one wire", c.v, c.w)
	}
	for _, wire := range []int{math.MinInt, -1, 3, 100, 1 << 32, math.MaxInt} {
		for _, pair := range [][2]int{{0, wire}, {wire, 0}, {wire, wire}} {
			g, ok := impl.MergeWires(add, pair[0], pair[1])
			checkGraph(t, g, ok, impl.Graph{}, false, "with one wire", pair)
		}
	}
}

func TestMirroredGraphs(t *testing.T) {
	for _, g := range slices.Concat(plainGraphs(2), tinyGraphs(), shapes()) {
		mirror, ok := impl.MirrorGraph(g)
		checkGraph(t, mirror, ok, mirroredGraph(g), true, "mirror image", g)
		twice, ok := impl.MirrorGraph(mirror)
		checkGraph(t, twice, ok, g, true, "mirror image", mirror)
	}
	for _, n := range nodesOfKinds() {
		image, isTerm := impl.MirrorTerm(termWith(n))
		g, isOpen := impl.GraphOf(termWith(n))
		if !isTerm || !isOpen || len(g.Edges) == 0 {
			continue
		}
		mirror, ok := impl.MirrorGraph(g)
		if e := mirror.Edges[0]; !ok || e.Kind != image.Nodes[0].Kind || e.Value != image.Nodes[0].Value || e.Kind == n.Kind {
			t.Error("mirror image", n, mirror, ok)
		}
	}
}
