package tests

import (
	"math"
	"slices"
	"testing"

	"loop.example/g01073/impl"
)

// This file checks P35 for the functions of chapter 5.

// termArguments are the arguments of a function of chapter 5; each function takes some of them.
type termArguments struct {
	p    int
	a, b impl.Term
	at   int
	perm []int
}

type termResults struct {
	term    impl.Term
	list    []int
	numbers [2]int
	ok      bool
}

// termCall is a function of chapter 5; succeeds tells for which arguments it is to succeed.
type termCall struct {
	name                               string
	takesP, takesB, takesAt, takesPerm bool
	succeeds                           func(v termArguments) bool
	call                               func(v termArguments) termResults
}

func termResult(x impl.Term, ok bool) termResults { return termResults{term: x, ok: ok} }

func twoNumbers(a, b int, ok bool) termResults { return termResults{numbers: [2]int{a, b}, ok: ok} }

func isOneTerm(v termArguments) bool { return isValidTerm(v.a) }

func hasPart(v termArguments) bool {
	return isValidTerm(v.a) && v.at >= 0 && v.at < len(v.a.Nodes)
}

// canJoin returns a function that reports whether two terms, and the one that joins them by a kind, are valid.
func canJoin(kind int) func(v termArguments) bool {
	return func(v termArguments) bool {
		return isValidTerm(v.a) && isValidTerm(v.b) && isValidTerm(joinedTerms(kind, v.a, v.b))
	}
}

func canReplace(v termArguments) bool {
	s, ok := treeOf(v.b)
	if !hasPart(v) || !ok {
		return false
	}
	part := partAt(v.a, v.at)
	return part.in == s.in && part.out == s.out && len(v.a.Nodes)+len(v.b.Nodes)-len(part.term().Nodes) <= maxNodes
}

// partAt returns the part of a valid term whose last node has the index at.
func partAt(x impl.Term, at int) tree {
	parts := validTree(x).all()
	return parts[slices.IndexFunc(parts, func(part tree) bool { return part.last == at })]
}

func isPermutation(v termArguments) bool {
	return len(v.perm) <= maxWires && slices.Equal(slices.Sorted(slices.Values(v.perm)), elementsOf(len(v.perm)))
}

func termCalls() []termCall {
	return []termCall{
		{name: "IsTerm", takesP: true,
			succeeds: func(v termArguments) bool { return isTermOver(v.p, v.a) },
			call:     func(v termArguments) termResults { return termResults{ok: impl.IsTerm(v.p, v.a)} }},
		{name: "TypeOf", succeeds: isOneTerm,
			call: func(v termArguments) termResults { return twoNumbers(impl.TypeOf(v.a)) }},
		{name: "SeqTerm", takesB: true, succeeds: canJoin(impl.TmSeq),
			call: func(v termArguments) termResults { return termResult(impl.SeqTerm(v.a, v.b)) }},
		{name: "ParTerm", takesB: true, succeeds: canJoin(impl.TmPar),
			call: func(v termArguments) termResults { return termResult(impl.ParTerm(v.a, v.b)) }},
		{name: "MirrorTerm", succeeds: isOneTerm,
			call: func(v termArguments) termResults { return termResult(impl.MirrorTerm(v.a)) }},
		{name: "SubtermAt", takesAt: true, succeeds: hasPart,
			call: func(v termArguments) termResults { return termResult(impl.SubtermAt(v.a, v.at)) }},
		{name: "ReplaceAt", takesB: true, takesAt: true, succeeds: canReplace,
			call: func(v termArguments) termResults { return termResult(impl.ReplaceAt(v.a, v.at, v.b)) }},
		{name: "PermutationTerm", takesPerm: true, succeeds: isPermutation,
			call: func(v termArguments) termResults { return termResult(impl.PermutationTerm(v.perm)) }},
		{name: "CountKinds", succeeds: isOneTerm,
			call: func(v termArguments) termResults {
				counts, ok := impl.CountKinds(v.a)
				return termResults{list: counts, ok: ok}
			}},
		{name: "WidthOf", succeeds: isOneTerm,
			call: func(v termArguments) termResults { return twoNumbers(impl.WidthOf(v.a)) }},
		{name: "TidyTerm", succeeds: isOneTerm,
			call: func(v termArguments) termResults { return termResult(impl.TidyTerm(v.a)) }},
	}
}

// oddTerms returns valid and invalid terms.
func oddTerms() []impl.Term {
	return append(invalidTerms(),
		idTerm(0), idTerm(1), idTerm(2), idTerm(12), leafTerm(impl.TmSwap), leafTerm(impl.TmCopy), leafTerm(impl.TmDiscard), leafTerm(impl.TmAdd), leafTerm(impl.TmZero), scaleTerm(96), coscaleTerm(0), leafTerm(impl.TmDelay), leafTerm(impl.TmCodelay), leafTerm(impl.TmCocopy), leafTerm(impl.TmCozero),
		seqOf(leafTerm(impl.TmCopy), leafTerm(impl.TmAdd)), seqOf(leafTerm(impl.TmCopy), parOf(idTerm(1), leafTerm(impl.TmCopy))), parOf(idTerm(6), idTerm(6)), parOf(scaleTerm(96), coscaleTerm(4)), seqOf(leafTerm(impl.TmZero), leafTerm(impl.TmCozero)),
		chainTerm(200, idTerm(0)), chainTerm(100, idTerm(1)), chainTerm(101, scaleTerm(1)), parOf(slices.Repeat([]impl.Term{leafTerm(impl.TmZero)}, 12)...))
}

// oddLeaves returns terms of one node, most of them invalid.
func oddLeaves() []impl.Term {
	var terms []impl.Term
	for _, n := range nodesOfKinds() {
		terms = append(terms, termWith(n))
	}
	return terms
}

// oddPermutations returns permutations and lists that are none.
func oddPermutations() [][]int {
	lists := [][]int{nil, {}, {0}, {1}, {-1}, {1, 0}, {0, 0}, {1, 2, 0}, {1, 2, 3}, {2, 2, 0}, {math.MaxInt, 0}, {math.MinInt}, {0, math.MinInt}, make([]int, 13), make([]int, 100000)}
	for n := 11; n <= 14; n++ {
		reversed := elementsOf(n)
		slices.Reverse(reversed)
		lists = append(lists, elementsOf(n), reversed)
	}
	return lists
}

// eachArguments calls check with all arguments that f takes.
func (f termCall) eachArguments(check func(v termArguments)) {
	fields, firsts, seconds, indices, perms := []int{0}, append(oddTerms(), oddLeaves()...), []impl.Term{{}}, []int{0}, [][]int{nil}
	if f.takesP {
		fields = oddFields()
	}
	if f.takesB {
		seconds = oddTerms()
	}
	if f.takesAt {
		indices = []int{math.MinInt, -1, 0, 1, 2, 4, 398, 399, 400, math.MaxInt}
	}
	if f.takesPerm {
		firsts, perms = []impl.Term{{}}, oddPermutations()
	}
	for _, p := range fields {
		for _, a := range firsts {
			for _, b := range seconds {
				for _, at := range indices {
					for _, perm := range perms {
						check(termArguments{p, a, b, at, perm})
					}
				}
			}
		}
	}
}

func (r termResults) isZero() bool {
	return len(r.term.Nodes) == 0 && len(r.list) == 0 && r.numbers == [2]int{} && !r.ok
}

func sameTermResults(r, s termResults) bool {
	return sameTerm(r.term, s.term) && slices.Equal(r.list, s.list) && r.numbers == s.numbers && r.ok == s.ok
}

func TestTermFunctionsAreTotal(t *testing.T) {
	for _, f := range termCalls() {
		f.eachArguments(func(v termArguments) {
			r := f.call(v)
			if !r.ok && !r.isZero() {
				t.Fatal(f.name, "fails with a result", v, r)
			}
			if r.ok != f.succeeds(v) {
				t.Fatal(f.name, "succeeds:", r.ok, v)
			}
		})
	}
}

// guardNode stands in capacities behind lengths.
func guardNode() impl.Node { return impl.Node{Kind: guard, Value: guard, Name: "guard"} }

// guardedTerm returns a copy with guards in the capacity behind its nodes.
func guardedTerm(x impl.Term) impl.Term {
	return impl.Term{Nodes: append(slices.Clone(x.Nodes), guardNode(), guardNode())[:len(x.Nodes)]}
}

// isGuardedTerm reports whether x is still a guarded copy of want.
func isGuardedTerm(x, want impl.Term) bool {
	return slices.Equal(x.Nodes[:len(want.Nodes)+2], append(slices.Clone(want.Nodes), guardNode(), guardNode()))
}

// overwrite writes into the results, also in the capacities behind them.
func (r termResults) overwrite() {
	nodes := r.term.Nodes[:cap(r.term.Nodes)]
	for i := range nodes {
		nodes[i] = impl.Node{Kind: 1000, Name: "overwritten"}
	}
	list := r.list[:cap(r.list)]
	for i := range list {
		list[i] = 1000
	}
}

// checkTermMemory checks that a function modifies no argument, hands none out and keeps none.
func checkTermMemory(t *testing.T, f termCall, v termArguments) {
	if max(len(v.a.Nodes), len(v.b.Nodes), len(v.perm)) > 1000 {
		return
	}
	guarded := termArguments{v.p, guardedTerm(v.a), guardedTerm(v.b), v.at, guardedList(v.perm)}
	first := f.call(guarded)
	if !sameTermResults(first, f.call(v)) {
		t.Fatal(f.name, "depends on a capacity or an earlier call", v)
	}
	first.overwrite()
	if !isGuardedTerm(guarded.a, v.a) || !isGuardedTerm(guarded.b, v.b) || !isGuardedList(guarded.perm, v.perm) {
		t.Fatal(f.name, "changes its arguments or hands them out", v, guarded)
	}
	if !sameTermResults(f.call(guarded), f.call(v)) {
		t.Fatal(f.name, "depends on earlier results", v)
	}
}

func TestTermFunctionsShareNoMemory(t *testing.T) {
	cases := termCases()
	for _, f := range termCalls() {
		f.eachArguments(func(v termArguments) { checkTermMemory(t, f, v) })
		for i, c := range cases {
			indices := []int{len(c.t.Nodes) / 2}
			if f.takesAt {
				indices = []int{0, len(c.t.Nodes) / 2, len(c.t.Nodes) - 1}
			}
			for _, at := range indices {
				checkTermMemory(t, f, termArguments{c.p, c.t, cases[(i+1)%len(cases)].t, at, nil})
				checkTermMemory(t, f, termArguments{c.p, c.t, partAt(c.t, at).term(), at, nil})
			}
		}
	}
}

// TestTermArgumentsMayBeEqual gives the same term twice, and parts that share memory.
func TestTermArgumentsMayBeEqual(t *testing.T) {
	nodes := seqOf(leafTerm(impl.TmSwap), leafTerm(impl.TmSwap), leafTerm(impl.TmSwap)).Nodes
	whole, part := impl.Term{Nodes: nodes}, impl.Term{Nodes: nodes[:3]}
	before := slices.Clone(nodes)
	if x, ok := impl.SeqTerm(part, part); !ok || !sameTerm(x, seqOf(part, part)) {
		t.Error("composition", x, ok)
	}
	if x, ok := impl.ParTerm(part, whole); !ok || !sameTerm(x, parOf(part, whole)) {
		t.Error("juxtaposition", x, ok)
	}
	if x, ok := impl.ReplaceAt(whole, 3, part); !ok || !sameTerm(x, seqOf(part, part)) {
		t.Error("replaced part", x, ok)
	}
	if x, ok := impl.ReplaceAt(part, 0, whole); !ok || !sameTerm(x, seqOf(whole, leafTerm(impl.TmSwap))) {
		t.Error("replaced part", x, ok)
	}
	if x, ok := impl.ReplaceAt(whole, 4, whole); !ok || !sameTerm(x, whole) {
		t.Error("replaced whole", x, ok)
	}
	if !slices.Equal(nodes, before) {
		t.Error("the term is modified", nodes)
	}
}
