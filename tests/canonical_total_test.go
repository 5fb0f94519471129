package tests

import (
	"math"
	"math/rand/v2"
	"strings"
	"testing"

	"loop.example/g01073/impl"
)

// This file checks P35 for the functions of chapter 10.

// oddMonogamous returns monogamous graphs, and graphs that are not valid or not monogamous.
func oddMonogamous() []any {
	graphs := append(oddGraphs(), impl.Graph{}, fullestGraph(), chainGraph(impl.TmDelay, 0, 60, 11), copiesOf(60, ringGraph(impl.TmDelay, 0, 1)), ringGraph(impl.TmScale, 96, 60))
	return each(append(graphs, monogamousShapes()[:60]...))
}

// fewMonogamous returns a few of them, and of the others.
func fewMonogamous() []any {
	source := rand.New(rand.NewPCG(10, 11))
	graphs := append(invalidGraphs()[:20], widestGraph(), fullestGraph(), graphWith(1, []int{0, 0}, []int{0}))
	for _, g := range monogamousShapes()[:20] {
		graphs = append(graphs, g, shuffledGraph(source, g))
	}
	return each(graphs)
}

// isWiring reports whether a graph is valid and monogamous.
func isWiring(g any) bool { return isGraph(g.(impl.Graph)) && isMonogamous(g.(impl.Graph)) }

func isOneWiring(x []any) bool { return isWiring(x[0]) }

func areTwoWirings(x []any) bool { return isWiring(x[0]) && isWiring(x[1]) }

// oddMatches returns lists of two graphs and of a match, with as many numbers as the first graph has or about as many.
func oddMatches() [][]any {
	var lists [][]any
	source := rand.New(rand.NewPCG(10, 12))
	for _, g := range fewMonogamous() {
		a := g.(impl.Graph)
		for _, wires := range oddNumberings(a.Wires) {
			for _, edges := range oddNumberings(len(a.Edges)) {
				b := a
				if isGraph(a) && source.IntN(2) == 0 {
					b = shuffledGraph(source, a)
				}
				lists = append(lists, []any{a, b, impl.Match{Wires: wires, Edges: edges}})
			}
		}
	}
	return lists
}

// oddGraphTexts returns texts of graphs and other strings.
func oddGraphTexts() []any {
	texts := []string{"", "0||", "|", "||", "|||", "1|0|0", "1|0|0|", "1|0|0|()", "1|0|0|(>)", "1|0|0|:(>)", "1|0|0|)>(", "1|0|0|scale:1(0>0)", "\xff|\x00|", "9223372036854775807||", "-9223372036854775808||", "1|9223372036854775808|0", "copy(0>1,2)", strings.Repeat("|", 100000), strings.Repeat("1,", 100000), strings.Repeat("(", 100000), strings.Repeat(">", 100000), writtenGraph(fullestGraph()), writtenGraph(widestGraph())}
	return each(texts)
}

// oddKinds returns kinds and numbers that are none.
func oddKinds() []any {
	return append(each(elementsOf(20)), math.MinInt, -3, -1, 1<<32+3, math.MaxInt)
}

func canonicalCalls() []totalCall {
	one := [][]any{oddMonogamous()}
	two := [][]any{fewMonogamous(), fewMonogamous()}
	hasFewAutomorphisms := func(x []any) bool {
		return isOneWiring(x) && automorphismsOf(x[0].(impl.Graph)).BitLen() <= 30 && automorphismsOf(x[0].(impl.Graph)).Int64() <= 1000000000
	}
	areIsomorphic := func(x []any) bool {
		return areTwoWirings(x) && sameGraph(canonicalOf(x[0].(impl.Graph)), canonicalOf(x[1].(impl.Graph)))
	}
	isText := func(x []any) bool {
		_, ok := readGraph(x[0].(string))
		return ok
	}
	return []totalCall{
		{name: "CanonicalNumbers", function: impl.CanonicalNumbers, odd: one, succeeds: isOneWiring},
		{name: "CanonicalGraph", function: impl.CanonicalGraph, odd: one, succeeds: isOneWiring},
		{name: "SameGraphs", function: impl.SameGraphs, odd: two, succeeds: areTwoWirings},
		{name: "IsomorphismOf", function: impl.IsomorphismOf, odd: two, succeeds: areIsomorphic},
		{name: "IsIsomorphism", function: impl.IsIsomorphism, together: oddMatches(), succeeds: areTwoWirings},
		{name: "ClosedComponents", function: impl.ClosedComponents, odd: one, succeeds: isOneWiring},
		{name: "CountAutomorphisms", function: impl.CountAutomorphisms, odd: one, succeeds: hasFewAutomorphisms},
		{name: "KindName", function: impl.KindName, odd: [][]any{oddKinds()}, succeeds: func(x []any) bool { return x[0].(int) >= impl.TmCopy && x[0].(int) <= impl.TmCodelay }},
		{name: "GraphText", function: impl.GraphText, odd: one, succeeds: func(x []any) bool { return isGraph(x[0].(impl.Graph)) }},
		{name: "ParseGraph", function: impl.ParseGraph, odd: [][]any{oddGraphTexts()}, succeeds: isText},
	}
}

func TestCanonicalFunctionsAreTotal(t *testing.T) { checkCalls(t, canonicalCalls()) }

// TestCanonicalArgumentsMayBeEqual gives the same graph twice, and graphs and lists that share memory.
func TestCanonicalArgumentsMayBeEqual(t *testing.T) {
	wires := []int{0, 1, 0}
	g := graphWith(2, wires[:1], wires[1:2], edgeOf(impl.TmDelay, wires[:1], wires[1:2]))
	m := impl.Match{Wires: wires[:2], Edges: wires[2:]}
	if is, ok := impl.SameGraphs(g, g); !is || !ok {
		t.Error("a graph is not the same as itself")
	}
	if is, ok := impl.IsIsomorphism(g, g, m); !is || !ok {
		t.Error("the identity is no isomorphism")
	}
	found, ok := impl.IsomorphismOf(g, g)
	if !ok || !isIsomorphism(g, g, found) {
		t.Error("isomorphism", found, ok)
	}
	k, ok := impl.CanonicalGraph(g)
	if !ok || !overwriteGraph(k) || !sameGraph(g, graphWith(2, []int{0}, []int{1}, edgeOf(impl.TmDelay, []int{0}, []int{1}))) {
		t.Error("the canonical graph shares memory", g)
	}
}
