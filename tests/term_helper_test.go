package tests

import (
	"math/rand/v2"
	"slices"

	"loop.example/g01073/impl"
)

// This file has terms to test with and computations with them that do not use the program.

const (
	maxWires = 12
	maxNodes = 400
)

// leafTypes has the numbers of input and output wires of all kinds of leaves except TmId.
var leafTypes = map[int][2]int{
	impl.TmSwap: {2, 2},
	impl.TmCopy: {1, 2}, impl.TmDiscard: {1, 0}, impl.TmAdd: {2, 1}, impl.TmZero: {0, 1}, impl.TmScale: {1, 1}, impl.TmDelay: {1, 1},
	impl.TmCocopy: {2, 1}, impl.TmCodiscard: {0, 1}, impl.TmCoadd: {1, 2}, impl.TmCozero: {1, 0}, impl.TmCoscale: {1, 1}, impl.TmCodelay: {1, 1},
}

// mirrorKinds has the mirror images of the kinds of leaves that have another one than themselves.
var mirrorKinds = map[int]int{
	impl.TmCopy: impl.TmCocopy, impl.TmDiscard: impl.TmCodiscard, impl.TmAdd: impl.TmCoadd, impl.TmZero: impl.TmCozero, impl.TmScale: impl.TmCoscale, impl.TmDelay: impl.TmCodelay,
	impl.TmCocopy: impl.TmCopy, impl.TmCodiscard: impl.TmDiscard, impl.TmCoadd: impl.TmAdd, impl.TmCozero: impl.TmZero, impl.TmCoscale: impl.TmScale, impl.TmCodelay: impl.TmDelay,
}

func termWith(nodes ...impl.Node) impl.Term { return impl.Term{Nodes: nodes} }

func leafTerm(kind int) impl.Term { return termWith(impl.Node{Kind: kind}) }

func idTerm(n int) impl.Term { return termWith(impl.Node{Kind: impl.TmId, Value: n}) }

func scaleTerm(factor int) impl.Term { return termWith(impl.Node{Kind: impl.TmScale, Value: factor}) }

func coscaleTerm(factor int) impl.Term {
	return termWith(impl.Node{Kind: impl.TmCoscale, Value: factor})
}

// joinedTerms joins terms, nested to the left, whether they fit or not.
func joinedTerms(kind int, terms ...impl.Term) impl.Term {
	nodes := slices.Clone(terms[0].Nodes)
	for _, t := range terms[1:] {
		nodes = append(slices.Concat(nodes, t.Nodes), impl.Node{Kind: kind})
	}
	return impl.Term{Nodes: nodes}
}

func seqOf(terms ...impl.Term) impl.Term { return joinedTerms(impl.TmSeq, terms...) }

func parOf(terms ...impl.Term) impl.Term { return joinedTerms(impl.TmPar, terms...) }

// chainTerm returns the composition of n copies of a term, nested to the left.
func chainTerm(n int, t impl.Term) impl.Term { return seqOf(slices.Repeat([]impl.Term{t}, n)...) }

func sameTerm(a, b impl.Term) bool { return slices.Equal(a.Nodes, b.Nodes) }

// tree is a part of a term with its type and the indices of its nodes.
type tree struct {
	node        impl.Node
	parts       []tree
	in, out     int
	first, last int
}

func isJoint(kind int) bool { return kind == impl.TmSeq || kind == impl.TmPar }

// leafTree reads the node with the index at as a leaf of a term of a library.
func leafTree(lib []impl.Def, nodes []impl.Node, at int) (tree, bool) {
	n := nodes[at]
	leaf := tree{node: n, first: at, last: at}
	for _, d := range lib {
		if n.Kind == impl.TmName && n.Name == d.Name {
			leaf.in, leaf.out = d.In, d.Out
			return leaf, n.Value == 0
		}
	}
	greatest := 0
	switch n.Kind {
	case impl.TmId:
		leaf.in, leaf.out, greatest = n.Value, n.Value, maxWires
	case impl.TmScale, impl.TmCoscale:
		leaf.in, leaf.out, greatest = 1, 1, 96
	default:
		wires, found := leafTypes[n.Kind]
		if !found {
			return tree{}, false
		}
		leaf.in, leaf.out = wires[0], wires[1]
	}
	return leaf, n.Value >= 0 && n.Value <= greatest && n.Name == ""
}

// readTree reads the part of a term of a library whose last node has the index last, from its end.
func readTree(lib []impl.Def, nodes []impl.Node, last int) (tree, bool) {
	if last < 0 {
		return tree{}, false
	}
	n := nodes[last]
	if !isJoint(n.Kind) {
		return leafTree(lib, nodes, last)
	}
	b, isB := readTree(lib, nodes, last-1)
	if !isB {
		return tree{}, false
	}
	a, isA := readTree(lib, nodes, b.first-1)
	if !isA || n.Value != 0 || n.Name != "" {
		return tree{}, false
	}
	joined := tree{node: n, parts: []tree{a, b}, in: a.in + b.in, out: a.out + b.out, first: a.first, last: last}
	if n.Kind == impl.TmSeq {
		joined.in, joined.out = a.in, b.out
		return joined, a.out == b.in
	}
	return joined, joined.in <= maxWires && joined.out <= maxWires
}

// treeOf reads a term, and reports whether it is valid.
func treeOf(t impl.Term) (tree, bool) { return treeIn(nil, t) }

// treeIn reads a term, and reports whether it is one of the library.
func treeIn(lib []impl.Def, t impl.Term) (tree, bool) {
	if len(t.Nodes) > maxNodes {
		return tree{}, false
	}
	whole, ok := readTree(lib, t.Nodes, len(t.Nodes)-1)
	if !ok || whole.first != 0 {
		return tree{}, false
	}
	return whole, true
}

func isValidTerm(t impl.Term) bool {
	_, ok := treeOf(t)
	return ok
}

// isTermOver follows the definition of a term over p.
func isTermOver(p int, t impl.Term) bool {
	tooGreat := func(n impl.Node) bool {
		return (n.Kind == impl.TmScale || n.Kind == impl.TmCoscale) && n.Value >= p
	}
	return slices.Contains(fields, p) && isValidTerm(t) && !slices.ContainsFunc(t.Nodes, tooGreat)
}

// validTree reads a term that is known to be valid.
func validTree(t impl.Term) tree {
	whole, ok := treeOf(t)
	if !ok {
		panic("the term is not valid")
	}
	return whole
}

// all returns the tree and all parts in it.
func (x tree) all() []tree {
	trees := []tree{x}
	for _, part := range x.parts {
		trees = append(trees, part.all()...)
	}
	return trees
}

// term returns the nodes of the tree as a term.
func (x tree) term() impl.Term {
	var nodes []impl.Node
	for _, part := range x.parts {
		nodes = append(nodes, part.term().Nodes...)
	}
	return impl.Term{Nodes: append(nodes, x.node)}
}

// mirror returns the mirror image of the tree as a term.
func (x tree) mirror() impl.Term {
	switch x.node.Kind {
	case impl.TmSeq:
		return seqOf(x.parts[1].mirror(), x.parts[0].mirror())
	case impl.TmPar:
		return parOf(x.parts[0].mirror(), x.parts[1].mirror())
	}
	n := x.node
	if kind, found := mirrorKinds[n.Kind]; found {
		n.Kind = kind
	}
	return termWith(n)
}

func (x tree) width() int {
	switch x.node.Kind {
	case impl.TmSeq:
		return max(x.parts[0].width(), x.parts[1].width())
	case impl.TmPar:
		return x.parts[0].width() + x.parts[1].width()
	}
	return max(x.in, x.out)
}

func (x tree) depth() int {
	switch x.node.Kind {
	case impl.TmSeq:
		return x.parts[0].depth() + x.parts[1].depth()
	case impl.TmPar:
		return max(x.parts[0].depth(), x.parts[1].depth())
	}
	return 1
}

// leavesWith returns all leaves over p with this number of inputs.
func leavesWith(p, in int) []impl.Term {
	leaves := []impl.Term{idTerm(in)}
	for kind := impl.TmSwap; kind <= impl.TmCodelay; kind++ {
		if leafTypes[kind][0] != in {
			continue
		}
		if kind == impl.TmScale || kind == impl.TmCoscale {
			for _, factor := range []int{0, 1, p / 2, p - 1} {
				leaves = append(leaves, termWith(impl.Node{Kind: kind, Value: factor}))
			}
		} else {
			leaves = append(leaves, leafTerm(kind))
		}
	}
	return leaves
}

// randomTerm returns a valid term over p with in inputs, in which at most depth joints contain each other.
func randomTerm(source *rand.Rand, p, in, depth int) impl.Term {
	leaves := leavesWith(p, in)
	choice := source.IntN(5)
	if depth == 0 || choice == 0 {
		return leaves[source.IntN(len(leaves))]
	}
	if choice < 3 {
		a := randomTerm(source, p, in, depth-1)
		return seqOf(a, randomTerm(source, p, validTree(a).out, depth-1))
	}
	k := source.IntN(in + 1)
	beside := parOf(randomTerm(source, p, k, depth-1), randomTerm(source, p, in-k, depth-1))
	if !isValidTerm(beside) {
		return leaves[source.IntN(len(leaves))]
	}
	return beside
}

type termCase struct {
	p int
	t impl.Term
}

// termCases returns all leaves, and terms of many sizes and types.
func termCases() []termCase {
	var cases []termCase
	source := rand.New(rand.NewPCG(5, 35))
	for _, p := range []int{2, 3, 5, 7} {
		for in := range maxWires + 1 {
			for _, leaf := range leavesWith(p, in) {
				cases = append(cases, termCase{p, leaf})
			}
			for depth := 1; depth <= 6; depth++ {
				for range 6 {
					cases = append(cases, termCase{p, randomTerm(source, p, in, depth)})
				}
			}
		}
	}
	return append(cases, termCase{5, chainTerm(200, idTerm(maxWires))}, termCase{5, chainTerm(199, leafTerm(impl.TmSwap))}, termCase{5, parOf(slices.Repeat([]impl.Term{idTerm(0)}, 200)...)})
}

// smallTerms returns all valid terms over p with at most two leaves, of which the identities have at most two wires.
func smallTerms(p int) []impl.Term {
	leaves := slices.Concat(leavesWith(p, 0), leavesWith(p, 1), leavesWith(p, 2))
	terms := slices.Clone(leaves)
	for _, a := range leaves {
		for _, b := range leaves {
			for _, t := range []impl.Term{seqOf(a, b), parOf(a, b)} {
				if isValidTerm(t) {
					terms = append(terms, t)
				}
			}
		}
	}
	return terms
}

// nestedTerms returns all terms of a library with up to four of these leaves, in all nestings.
func nestedTerms(lib []impl.Def, leaves []impl.Term) []impl.Term {
	bySize := [][]impl.Term{nil, leaves}
	for size := 2; size <= 4; size++ {
		var terms []impl.Term
		for left := 1; left < size; left++ {
			for _, a := range bySize[left] {
				for _, b := range bySize[size-left] {
					for _, x := range []impl.Term{seqOf(a, b), parOf(a, b)} {
						if _, ok := treeIn(lib, x); ok {
							terms = append(terms, x)
						}
					}
				}
			}
		}
		bySize = append(bySize, terms)
	}
	return slices.Concat(bySize...)
}
