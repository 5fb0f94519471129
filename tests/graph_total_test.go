package tests

import (
	"math"
	"slices"
	"testing"

	"loop.example/g01073/impl"
)

// This file checks P35 for the functions of chapter 9.

// graphArguments are the arguments of a function of chapter 9; each function takes some of them.
type graphArguments struct {
	p, v, w      int
	t            impl.Term
	a, b         impl.Graph
	wires, edges []int
}

type graphResults struct {
	g    impl.Graph
	rows rowsResults
}

// graphCall is a function of chapter 9; succeeds tells for which arguments it is to succeed.
type graphCall struct {
	name                                                          string
	takesP, takesV, takesW, takesT, takesA, takesB, isRenumbering bool
	succeeds                                                      func(x graphArguments) bool
	call                                                          func(x graphArguments) graphResults
}

func graphResult(g impl.Graph, ok bool) graphResults {
	return graphResults{g, rowsResults{ok: ok}}
}

// shapeResult is that of a function without another result than its answer.
func shapeResult(is bool) graphResults { return graphResults{rows: rowsResults{ok: is}} }

func componentsResult(numbers []int, n int, ok bool) graphResults {
	rows := listResult(numbers, ok)
	rows.number = n
	return graphResults{rows: rows}
}

func isFirstGraph(x graphArguments) bool { return isGraph(x.a) }

func areTwoGraphs(x graphArguments) bool { return isGraph(x.a) && isGraph(x.b) }

func isWireOf(g impl.Graph, wire int) bool { return wire >= 0 && wire < g.Wires }

func graphCalls() []graphCall {
	return []graphCall{
		{name: "IsGraph", takesP: true, takesA: true,
			succeeds: func(x graphArguments) bool { return isGraphOver(x.p, x.a) },
			call:     func(x graphArguments) graphResults { return shapeResult(impl.IsGraph(x.p, x.a)) }},
		{name: "GraphOf", takesT: true,
			succeeds: func(x graphArguments) bool {
				whole, isTerm := treeOf(x.t)
				return isTerm && hasGraph(whole)
			},
			call: func(x graphArguments) graphResults { return graphResult(impl.GraphOf(x.t)) }},
		{name: "IdentityGraph", takesV: true,
			succeeds: func(x graphArguments) bool { return x.v >= 0 && x.v <= maxWires },
			call:     func(x graphArguments) graphResults { return graphResult(impl.IdentityGraph(x.v)) }},
		{name: "SeqGraphs", takesA: true, takesB: true,
			succeeds: func(x graphArguments) bool {
				return areTwoGraphs(x) && len(x.a.Out) == len(x.b.In) && isGraph(composedGraphs(x.a, x.b))
			},
			call: func(x graphArguments) graphResults { return graphResult(impl.SeqGraphs(x.a, x.b)) }},
		{name: "ParGraphs", takesA: true, takesB: true,
			succeeds: func(x graphArguments) bool { return areTwoGraphs(x) && isGraph(besideGraphs(x.a, x.b)) },
			call:     func(x graphArguments) graphResults { return graphResult(impl.ParGraphs(x.a, x.b)) }},
		{name: "TraceGraph", takesV: true, takesA: true,
			succeeds: func(x graphArguments) bool {
				return isGraph(x.a) && x.v >= 0 && x.v <= len(x.a.In) && x.v <= len(x.a.Out)
			},
			call: func(x graphArguments) graphResults { return graphResult(impl.TraceGraph(x.a, x.v)) }},
		{name: "MergeWires", takesV: true, takesW: true, takesA: true,
			succeeds: func(x graphArguments) bool { return isGraph(x.a) && isWireOf(x.a, x.v) && isWireOf(x.a, x.w) },
			call:     func(x graphArguments) graphResults { return graphResult(impl.MergeWires(x.a, x.v, x.w)) }},
		{name: "MirrorGraph", takesA: true, succeeds: isFirstGraph,
			call: func(x graphArguments) graphResults { return graphResult(impl.MirrorGraph(x.a)) }},
		{name: "IsMonogamous", takesA: true,
			succeeds: func(x graphArguments) bool { return isGraph(x.a) && isMonogamous(x.a) },
			call:     func(x graphArguments) graphResults { return shapeResult(impl.IsMonogamous(x.a)) }},
		{name: "IsAcyclic", takesA: true,
			succeeds: func(x graphArguments) bool { return isGraph(x.a) && isAcyclic(x.a) },
			call:     func(x graphArguments) graphResults { return shapeResult(impl.IsAcyclic(x.a)) }},
		{name: "RenumberGraph", takesA: true, isRenumbering: true,
			succeeds: func(x graphArguments) bool {
				return isGraph(x.a) && isPermutationOf(x.a.Wires, x.wires) && isPermutationOf(len(x.a.Edges), x.edges)
			},
			call: func(x graphArguments) graphResults { return graphResult(impl.RenumberGraph(x.a, x.wires, x.edges)) }},
		{name: "ComponentsOf", takesA: true, succeeds: isFirstGraph,
			call: func(x graphArguments) graphResults { return componentsResult(impl.ComponentsOf(x.a)) }},
	}
}

// oddNumberings returns lists that have each of the numbers up to n once, and lists of about that length that have not.
func oddNumberings(n int) [][]int {
	n = min(max(n, 0), 1000)
	reversed := elementsOf(n)
	slices.Reverse(reversed)
	lists := [][]int{nil, elementsOf(n), reversed, elementsOf(n + 1), zeros(n), make([]int, 100000)}
	if n == 0 {
		return lists
	}
	for _, x := range []int{0, n, -1, math.MinInt, math.MaxInt} {
		lists = append(lists, append(elementsOf(n-1), x))
	}
	return append(lists, elementsOf(n-1))
}

// eachList calls check with the lists of numbers that f takes for these arguments.
func (f graphCall) eachList(x graphArguments, check func(x graphArguments)) {
	if !f.isRenumbering {
		check(x)
		return
	}
	for _, wires := range oddNumberings(x.a.Wires) {
		for _, edges := range oddNumberings(len(x.a.Edges)) {
			x.wires, x.edges = wires, edges
			check(x)
		}
	}
}

// eachNumber calls check with the numbers and the lists that f takes for these arguments.
func (f graphCall) eachNumber(x graphArguments, check func(x graphArguments)) {
	fields, firsts, seconds := []int{0}, []int{0}, []int{0}
	if f.takesP {
		fields = oddFields()
	}
	if f.takesV {
		firsts = append(oddNumbers(), maxWires, maxWires+1, x.a.Wires-1, x.a.Wires)
	}
	if f.takesW {
		seconds = []int{math.MinInt, -1, 0, 1, x.a.Wires - 1, x.a.Wires, math.MaxInt}
	}
	for _, p := range fields {
		for _, v := range firsts {
			for _, w := range seconds {
				x.p, x.v, x.w = p, v, w
				f.eachList(x, check)
			}
		}
	}
}

// eachArguments calls check with all arguments that f takes.
func (f graphCall) eachArguments(check func(x graphArguments)) {
	terms, firsts, seconds := []impl.Term{{}}, []impl.Graph{{}}, []impl.Graph{{}}
	if f.takesT {
		terms = append(oddTerms(), oddLeaves()...)
	}
	if f.takesA {
		firsts = oddGraphs()
	}
	if f.takesB {
		seconds = oddGraphs()
	}
	for _, term := range terms {
		for _, a := range firsts {
			for _, b := range seconds {
				f.eachNumber(graphArguments{t: term, a: a, b: b}, check)
			}
		}
	}
}

func TestGraphFunctionsAreTotal(t *testing.T) {
	for _, f := range graphCalls() {
		f.eachArguments(func(x graphArguments) {
			r := f.call(x)
			if !r.rows.ok && (!r.rows.isZero() || !sameGraph(r.g, impl.Graph{})) {
				t.Fatal(f.name, "fails with a result", x, r)
			}
			if r.rows.ok != f.succeeds(x) {
				t.Fatal(f.name, "succeeds:", r.rows.ok, x)
			}
		})
	}
}

func sameGraphResults(r, s graphResults) bool {
	return sameGraph(r.g, s.g) && sameResults(r.rows, s.rows)
}

// checkGraphMemory checks that a function modifies no argument, hands none out and keeps none.
func checkGraphMemory(t *testing.T, f graphCall, x graphArguments) {
	t.Helper()
	if max(len(x.t.Nodes), len(x.a.Edges), len(x.b.Edges), len(x.a.In), len(x.b.In), len(x.wires), len(x.edges)) > 1000 {
		return
	}
	guarded := graphArguments{x.p, x.v, x.w, guardedTerm(x.t), guardedGraph(x.a), guardedGraph(x.b), guardedList(x.wires), guardedList(x.edges)}
	first := f.call(guarded)
	if !sameGraphResults(first, f.call(x)) {
		t.Fatal(f.name, "depends on a capacity or an earlier call", x)
	}
	if !overwriteGraph(first.g) || !first.rows.overwrite() {
		t.Fatal(f.name, "has results that share memory", x)
	}
	if !isGuardedTerm(guarded.t, x.t) || !isGuardedGraph(guarded.a, x.a) || !isGuardedGraph(guarded.b, x.b) || !isGuardedList(guarded.wires, x.wires) || !isGuardedList(guarded.edges, x.edges) {
		t.Fatal(f.name, "changes its arguments or hands them out", x, guarded)
	}
	if !sameGraphResults(f.call(guarded), f.call(x)) {
		t.Fatal(f.name, "depends on earlier results", x)
	}
}

func TestGraphFunctionsShareNoMemory(t *testing.T) {
	graphs := shapes()
	for _, f := range graphCalls() {
		f.eachArguments(func(x graphArguments) { checkGraphMemory(t, f, x) })
		for i, a := range graphs {
			for _, v := range []int{0, 1} {
				checkGraphMemory(t, f, graphArguments{p: 97, v: v, w: 1, a: a, b: graphs[(7*i+1)%len(graphs)], wires: elementsOf(a.Wires), edges: elementsOf(len(a.Edges))})
			}
		}
	}
}

// TestGraphArgumentsMayBeEqual gives the same graph twice, and graphs and lists that share memory.
func TestGraphArgumentsMayBeEqual(t *testing.T) {
	wires := []int{0, 1, 1, 0, 1}
	g := graphWith(2, wires[:2], wires[1:3], edgeOf(impl.TmCopy, wires[:1], wires[1:3]), edgeOf(impl.TmCopy, wires[3:4], wires[3:]))
	apart := graphWith(2, []int{0, 1}, []int{1, 1}, edgeOf(impl.TmCopy, []int{0}, []int{1, 1}), edgeOf(impl.TmCopy, []int{0}, []int{0, 1}))
	for _, f := range graphCalls() {
		x := graphArguments{p: 5, v: 1, a: g, b: g, wires: wires[3:], edges: wires[3:]}
		want := f.call(graphArguments{p: 5, v: 1, a: apart, b: apart, wires: []int{0, 1}, edges: []int{0, 1}})
		r := f.call(x)
		if !sameGraphResults(r, want) || r.rows.ok != f.succeeds(x) {
			t.Error(f.name, r, "not", want)
		}
		if !overwriteGraph(r.g) || !r.rows.overwrite() || !slices.Equal(wires, []int{0, 1, 1, 0, 1}) || !sameGraph(g, apart) {
			t.Error(f.name, "changes its arguments or hands them out", wires, g)
		}
	}
}
