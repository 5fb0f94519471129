package tests

import (
	"math"
	"slices"
	"testing"

	"loop.example/g01073/impl"
)

// This file checks P35 for the functions of chapter 8.

// denoteArguments are the arguments of a function of chapter 8; each function takes some of them.
type denoteArguments struct {
	p    int
	node impl.Node
	a, b impl.Term
	g    impl.Graph
	x, y []int
}

// denoteCall is a function of chapter 8; succeeds tells for which arguments it is to succeed.
type denoteCall struct {
	name                                            string
	takesNode, takesA, takesB, takesG, takesX, isXY bool
	succeeds                                        func(v denoteArguments) bool
	call                                            func(v denoteArguments) rowsResults
}

func pairResult(x, y []int, ok bool) rowsResults {
	if x == nil && y == nil {
		return rowsResults{ok: ok}
	}
	return rowsResults{lists: [][]int{x, y}, ok: ok}
}

func isDenotedTerm(p int, x impl.Term) bool { return isTermOver(p, x) && !hasDelay(x) }

func isFirstDenoted(v denoteArguments) bool { return isDenotedTerm(v.p, v.a) }

func isGraphDenoted(v denoteArguments) bool { return hasRelation(v.p, v.g) }

func areComparable(v denoteArguments) bool {
	if !isDenotedTerm(v.p, v.a) || !isDenotedTerm(v.p, v.b) {
		return false
	}
	a, b := validTree(v.a), validTree(v.b)
	return a.in == b.in && a.out == b.out
}

func hasMissingPair(v denoteArguments) bool {
	if !areComparable(v) {
		return false
	}
	r, s := denoted(v.p, v.a), denoted(v.p, v.b)
	return slices.ContainsFunc(r.Basis, func(list []int) bool { return !isIn(v.p, s.Basis, list) })
}

func hasMatrix(v denoteArguments) bool {
	if !isFirstDenoted(v) {
		return false
	}
	r := denoted(v.p, v.a)
	inputs := sideRank(v.p, r, 0, r.Left)
	return inputs == r.Left && inputs == len(r.Basis)
}

func hasWireValues(v denoteArguments) bool {
	if !isGraphDenoted(v) || len(v.x) != len(v.g.In) || len(v.y) != len(v.g.Out) || !isElementList(v.p, v.x) || !isElementList(v.p, v.y) {
		return false
	}
	_, ok := solutionsOf(v.p, v.g, slices.Concat(v.x, v.y))
	return ok
}

func denoteCalls() []denoteCall {
	return []denoteCall{
		{name: "LeafRelation", takesNode: true,
			succeeds: func(v denoteArguments) bool { return isDenotedTerm(v.p, termWith(v.node)) },
			call:     func(v denoteArguments) rowsResults { return relationResult(impl.LeafRelation(v.p, v.node)) }},
		{name: "DenoteTerm", takesA: true, succeeds: isFirstDenoted,
			call: func(v denoteArguments) rowsResults { return relationResult(impl.DenoteTerm(v.p, v.a)) }},
		{name: "DenoteGraph", takesG: true, succeeds: isGraphDenoted,
			call: func(v denoteArguments) rowsResults { return relationResult(impl.DenoteGraph(v.p, v.g)) }},
		{name: "IsValuation", takesG: true, takesX: true,
			succeeds: func(v denoteArguments) bool {
				return isGraphDenoted(v) && len(v.x) == v.g.Wires && isElementList(v.p, v.x)
			},
			call: func(v denoteArguments) rowsResults { return truthResult(impl.IsValuation(v.p, v.g, v.x)) }},
		{name: "WireValues", takesG: true, isXY: true, succeeds: hasWireValues,
			call: func(v denoteArguments) rowsResults { return listResult(impl.WireValues(v.p, v.g, v.x, v.y)) }},
		{name: "EqualTerms", takesA: true, takesB: true, succeeds: areComparable,
			call: func(v denoteArguments) rowsResults { return truthResult(impl.EqualTerms(v.p, v.a, v.b)) }},
		{name: "IncludedTerms", takesA: true, takesB: true, succeeds: areComparable,
			call: func(v denoteArguments) rowsResults { return truthResult(impl.IncludedTerms(v.p, v.a, v.b)) }},
		{name: "MissingPair", takesA: true, takesB: true, succeeds: hasMissingPair,
			call: func(v denoteArguments) rowsResults { return pairResult(impl.MissingPair(v.p, v.a, v.b)) }},
		{name: "DimensionOf", takesA: true, succeeds: isFirstDenoted,
			call: func(v denoteArguments) rowsResults { return numberResult(impl.DimensionOf(v.p, v.a)) }},
		{name: "MatrixOfTerm", takesA: true, succeeds: hasMatrix,
			call: func(v denoteArguments) rowsResults { return matrixResult(impl.MatrixOfTerm(v.p, v.a)) }},
	}
}

// oddGraphs returns valid and invalid graphs.
func oddGraphs() []impl.Graph {
	graphs := append(invalidGraphs(), widestGraph(), chainGraph(impl.TmScale, 1, 60, 11), chainGraph(impl.TmCoscale, 96, 3, 1), chainGraph(impl.TmDelay, 0, 2, 0), chainGraph(impl.TmCodelay, 0, 1, 2))
	for _, c := range loopGraphs() {
		graphs = append(graphs, c.g)
	}
	for _, c := range smallGraphs()[:40] {
		graphs = append(graphs, c.g)
	}
	return graphs
}

// oddElements returns lists of n elements of p, and lists of about that length that are none.
func oddElements(p, n int) [][]int {
	n = min(max(n, 0), 1000)
	lists := [][]int{nil, zeros(n), append(zeros(n), 0), slices.Repeat([]int{1}, n)}
	if n == 0 {
		return lists
	}
	for _, x := range []int{1, p - 1, p, -1, math.MaxInt, math.MinInt} {
		lists = append(lists, append(zeros(n-1), x), append([]int{x}, zeros(n-1)...))
	}
	return append(lists, zeros(n-1))
}

// oddTermsToCompare returns a few valid and invalid terms.
func oddTermsToCompare() []impl.Term {
	return append(invalidTerms(), idTerm(0), idTerm(1), idTerm(12), leafTerm(impl.TmCopy), leafTerm(impl.TmCoadd), leafTerm(impl.TmDelay), coscaleTerm(0), scaleTerm(96), seqOf(leafTerm(impl.TmDiscard), leafTerm(impl.TmCodiscard)), leafTerm(impl.TmDiscard), chainTerm(200, idTerm(0)))
}

// eachList calls check with the lists that f takes for these arguments.
func (f denoteCall) eachList(v denoteArguments, check func(v denoteArguments)) {
	firsts, seconds := [][]int{nil}, [][]int{nil}
	if f.takesX {
		firsts = oddElements(v.p, v.g.Wires)
	}
	if f.isXY {
		firsts, seconds = oddElements(v.p, len(v.g.In)), oddElements(v.p, len(v.g.Out))
	}
	for _, x := range firsts {
		for _, y := range seconds {
			v.x, v.y = x, y
			check(v)
		}
	}
}

// eachArguments calls check with all arguments that f takes.
func (f denoteCall) eachArguments(p int, check func(v denoteArguments)) {
	nodes, firsts, seconds, graphs := []impl.Node{{}}, []impl.Term{{}}, []impl.Term{{}}, []impl.Graph{{}}
	if f.takesNode {
		nodes = append(nodesOfKinds(), impl.Node{}, impl.Node{Kind: math.MinInt, Value: math.MinInt}, impl.Node{Kind: math.MaxInt, Value: math.MaxInt, Name: "a"}, impl.Node{Kind: impl.TmScale, Value: math.MaxInt}, impl.Node{Kind: impl.TmId, Value: math.MaxInt}, impl.Node{Kind: impl.TmId, Value: 1 << 32})
	}
	if f.takesA {
		firsts = append(oddTerms(), oddLeaves()...)
	}
	if f.takesB {
		firsts, seconds = oddTerms(), oddTermsToCompare()
	}
	if f.takesG {
		graphs = oddGraphs()
	}
	for _, node := range nodes {
		for _, a := range firsts {
			for _, b := range seconds {
				for _, g := range graphs {
					f.eachList(denoteArguments{p: p, node: node, a: a, b: b, g: g}, check)
				}
			}
		}
	}
}

func TestDenoteFunctionsAreTotal(t *testing.T) {
	for _, f := range denoteCalls() {
		for _, p := range oddFields() {
			f.eachArguments(p, func(v denoteArguments) {
				r := f.call(v)
				if !r.ok && !r.isZero() {
					t.Fatal(f.name, "fails with a result", v, r)
				}
				if r.ok != f.succeeds(v) {
					t.Fatal(f.name, "succeeds:", r.ok, v)
				}
			})
		}
	}
}

// checkDenoteMemory checks that a function modifies no argument, hands none out and keeps none.
func checkDenoteMemory(t *testing.T, f denoteCall, v denoteArguments) {
	t.Helper()
	if max(len(v.a.Nodes), len(v.b.Nodes), len(v.g.Edges), len(v.g.In), len(v.x)) > 1000 {
		return
	}
	guarded := denoteArguments{v.p, v.node, guardedTerm(v.a), guardedTerm(v.b), guardedGraph(v.g), guardedList(v.x), guardedList(v.y)}
	first := f.call(guarded)
	if !sameResults(first, f.call(v)) {
		t.Fatal(f.name, "depends on a capacity or an earlier call", v)
	}
	if !first.overwrite() {
		t.Fatal(f.name, "has results that share memory", v)
	}
	if !isGuardedTerm(guarded.a, v.a) || !isGuardedTerm(guarded.b, v.b) || !isGuardedGraph(guarded.g, v.g) || !isGuardedList(guarded.x, v.x) || !isGuardedList(guarded.y, v.y) {
		t.Fatal(f.name, "changes its arguments or hands them out", v, guarded)
	}
	if !sameResults(f.call(guarded), f.call(v)) {
		t.Fatal(f.name, "depends on earlier results", v)
	}
}

func TestDenoteFunctionsShareNoMemory(t *testing.T) {
	cases := staticCases()
	for _, f := range denoteCalls() {
		for _, p := range []int{2, 97} {
			f.eachArguments(p, func(v denoteArguments) { checkDenoteMemory(t, f, v) })
		}
		for i := 0; i < len(cases) && f.takesA; i += 5 {
			checkDenoteMemory(t, f, denoteArguments{p: cases[i].p, a: cases[i].t, b: cases[(i+1)%len(cases)].t})
		}
	}
}

// TestDenotedArgumentsMayBeEqual gives the same term twice, and a graph and lists that share memory.
func TestDenotedArgumentsMayBeEqual(t *testing.T) {
	x := seqOf(leafTerm(impl.TmCopy), leafTerm(impl.TmAdd))
	if is, ok := impl.EqualTerms(5, x, x); !is || !ok {
		t.Error("equal terms", is, ok)
	}
	if is, ok := impl.IncludedTerms(5, x, impl.Term{Nodes: x.Nodes[:1]}); is || ok {
		t.Error("included terms", is, ok)
	}
	wires := []int{0, 0, 1, 1}
	g := graphWith(2, wires[:3], wires[1:], edgeOf(impl.TmCoadd, wires[2:3], wires[:2]))
	want := graphWith(2, []int{0, 0, 1}, []int{0, 1, 1}, edgeOf(impl.TmCoadd, []int{1}, []int{0, 0}))
	same, isGraph := impl.DenoteGraph(5, want)
	if r, ok := impl.DenoteGraph(5, g); !ok || !isGraph || !sameRelation(r, same) {
		t.Error("relation of a graph", r, ok)
	}
	if v, ok := impl.WireValues(5, g, g.In, g.In); ok || len(v) > 0 {
		t.Error("values of wires", v, ok)
	}
	if is, ok := impl.IsValuation(5, g, wires[1:3]); is || !ok {
		t.Error("valuation", is, ok)
	}
	if !slices.Equal(wires, []int{0, 0, 1, 1}) || !sameGraph(g, want) {
		t.Error("the graph is modified", wires, g)
	}
}
