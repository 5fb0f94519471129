package tests

import (
	"fmt"
	"math/rand/v2"
	"testing"

	"loop.example/g01073/impl"
)

// This file tests P5, and that the functions of chapter 5 return terms with the denotations to be expected.

// leafDenotation returns the relation of a leaf over p. A delay has the relation of a multiplication by 2 modulo p: what holds for delays holds for any number in their place.
func leafDenotation(p int, n impl.Node) impl.Relation {
	if n.Kind >= impl.TmCocopy {
		n.Kind = mirrorKinds[n.Kind]
		return converseOf(p, leafDenotation(p, n))
	}
	var m impl.Matrix
	switch n.Kind {
	case impl.TmId:
		m = unitMatrix(n.Value)
	case impl.TmSwap:
		m = shiftMatrix(2, 1)
	case impl.TmCopy:
		m = matrixOf(2, []int{1, 1})
	case impl.TmDiscard:
		m = matrixOf(0, nil)
	case impl.TmAdd:
		m = matrixOf(1, []int{1}, []int{1})
	case impl.TmZero:
		m = matrixOf(1)
	case impl.TmScale:
		m = matrixOf(1, []int{n.Value})
	case impl.TmDelay:
		m = matrixOf(1, []int{2 % p})
	}
	return graphRelation(m)
}

// denotationOf returns the relation of a tree over p.
func denotationOf(p int, x tree) impl.Relation {
	switch x.node.Kind {
	case impl.TmSeq:
		return composed(p, denotationOf(p, x.parts[0]), denotationOf(p, x.parts[1]))
	case impl.TmPar:
		return tensored(p, denotationOf(p, x.parts[0]), denotationOf(p, x.parts[1]))
	}
	return leafDenotation(p, x.node)
}

func denoted(p int, t impl.Term) impl.Relation { return denotationOf(p, validTree(t)) }

// denotationCases returns terms that are small enough to replace many of their parts.
func denotationCases() []termCase {
	var cases []termCase
	source := rand.New(rand.NewPCG(5, 2))
	for _, p := range []int{2, 3, 5, 7} {
		for in := range 5 {
			for depth := 1; depth <= 4; depth++ {
				for range 4 {
					cases = append(cases, termCase{p, randomTerm(source, p, in, depth)})
				}
			}
		}
	}
	return cases
}

// equalTerms returns terms over p with the denotation of the part, whatever it is.
func equalTerms(t *testing.T, p int, part tree) []impl.Term {
	a := part.term()
	mirror := mirrorOf(t, a)
	tidy, ok := impl.TidyTerm(a)
	if !ok {
		t.Fatal("tidy form", a)
	}
	terms := []impl.Term{
		a, tidy, seqOf(idTerm(part.in), a), seqOf(a, idTerm(part.out)), parOf(idTerm(0), a), parOf(a, idTerm(0)),
		// If x, y and x', y and x', y' are in a linear relation, then x, y' is in it, too.
		seqOf(a, mirror, a),
	}
	if part.out < maxWires {
		terms = append(terms, seqOf(parOf(a, leafTerm(impl.TmZero)), parOf(idTerm(part.out), leafTerm(impl.TmDiscard))))
	}
	if part.in >= 2 {
		swaps := parOf(leafTerm(impl.TmSwap), idTerm(part.in-2))
		terms = append(terms, seqOf(swaps, swaps, a))
	}
	want := denotationOf(p, part)
	for _, s := range terms {
		if !sameRelation(denoted(p, s), want) {
			t.Fatal("the terms differ", p, a, s)
		}
	}
	return terms
}

// checkEqualReplacement replaces a part by a term of the same denotation and checks that whole keeps its own.
func checkEqualReplacement(t *testing.T, p int, whole impl.Term, part tree, s impl.Term) {
	got, ok := impl.ReplaceAt(whole, part.last, s)
	if !ok || !sameRelation(denoted(p, got), denoted(p, whole)) {
		t.Fatal("the term has another denotation", p, whole, part.last, s, got, ok)
	}
}

func TestPartsReplacedByEqualTerms(t *testing.T) {
	for _, c := range denotationCases() {
		for _, part := range validTree(c.t).all() {
			for _, s := range equalTerms(t, c.p, part) {
				checkEqualReplacement(t, c.p, c.t, part, s)
			}
		}
	}
}

// contextsOf returns terms with a as a part.
func contextsOf(t *testing.T, a impl.Term) []impl.Term {
	whole := validTree(a)
	return []impl.Term{a, parOf(a, leafTerm(impl.TmCopy)), parOf(leafTerm(impl.TmCopy), a), seqOf(idTerm(whole.in), a), seqOf(a, mirrorOf(t, a)), seqOf(mirrorOf(t, a), parOf(a, idTerm(0)))}
}

// TestPartsReplacedBySmallTerms groups all small terms by their denotations, and replaces each one by others of its group, alone and in larger terms.
func TestPartsReplacedBySmallTerms(t *testing.T) {
	for _, p := range []int{2, 3} {
		groups := map[string][]impl.Term{}
		for _, x := range smallTerms(p) {
			key := fmt.Sprint(denoted(p, x))
			groups[key] = append(groups[key], x)
		}
		for _, group := range groups {
			for i, a := range group {
				for _, step := range []int{1, 2, 5} {
					b := group[(i+step)%len(group)]
					for _, whole := range contextsOf(t, a) {
						for _, part := range validTree(whole).all() {
							if sameTerm(part.term(), a) {
								checkEqualReplacement(t, p, whole, part, b)
							}
						}
					}
				}
			}
		}
	}
}

// mirrorOf returns the mirror image of a valid term.
func mirrorOf(t *testing.T, x impl.Term) impl.Term {
	mirror, ok := impl.MirrorTerm(x)
	if !ok {
		t.Fatal("mirror image", x)
	}
	return mirror
}

func TestDenotationsOfMadeTerms(t *testing.T) {
	cases := denotationCases()
	for i, c := range cases {
		r := denoted(c.p, c.t)
		if mirror := mirrorOf(t, c.t); !sameRelation(denoted(c.p, mirror), converseOf(c.p, r)) {
			t.Fatal("mirror image", c, mirror)
		}
		if tidy, ok := impl.TidyTerm(c.t); !ok || !sameRelation(denoted(c.p, tidy), r) {
			t.Fatal("tidy term", c, tidy, ok)
		}
		other := cases[(i+1)%len(cases)].t
		if !isTermOver(c.p, other) {
			continue
		}
		s := denoted(c.p, other)
		if seq, ok := impl.SeqTerm(c.t, other); ok && !sameRelation(denoted(c.p, seq), composed(c.p, r, s)) {
			t.Fatal("composition", c, other, seq)
		}
		if par, ok := impl.ParTerm(c.t, other); ok && !sameRelation(denoted(c.p, par), tensored(c.p, r, s)) {
			t.Fatal("juxtaposition", c, other, par)
		}
	}
	for n := range 6 {
		perm := rand.New(rand.NewPCG(5, uint64(n))).Perm(n)
		m := zeroMatrix(n, n)
		for i, j := range perm {
			m.Rows[i][j] = 1
		}
		if x, ok := impl.PermutationTerm(perm); !ok || !sameRelation(denoted(5, x), graphRelation(m)) {
			t.Fatal("permutation", perm, x, ok)
		}
	}
}
