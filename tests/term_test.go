package tests

import (
	"math"
	"slices"
	"testing"

	"loop.example/g01073/impl"
)

// This file tests which terms are valid, their types, and how they are joined, mirrored, taken apart and counted.

func TestConstantsOfTerms(t *testing.T) {
	kinds := []int{
		impl.TmId, impl.TmSwap, impl.TmCopy, impl.TmDiscard, impl.TmAdd, impl.TmZero, impl.TmScale, impl.TmDelay,
		impl.TmCocopy, impl.TmCodiscard, impl.TmCoadd, impl.TmCozero, impl.TmCoscale, impl.TmCodelay, impl.TmSeq, impl.TmPar, impl.TmName,
	}
	for i, kind := range kinds {
		if kind != i+1 {
			t.Error("kind", i+1, kind)
		}
	}
	if impl.MaxWires != maxWires || impl.MaxNodes != maxNodes {
		t.Error("limits", impl.MaxWires, impl.MaxNodes)
	}
}

// checkValid compares the validity and the type of x with those that the tests read.
func checkValid(t *testing.T, x impl.Term) {
	want, valid := treeOf(x)
	if in, out, ok := impl.TypeOf(x); ok != valid || in != want.in || out != want.out {
		t.Fatal("type", x, in, out, ok)
	}
	for _, p := range []int{2, 5, 97, 4, -3, 0, 1, 101} {
		if impl.IsTerm(p, x) != isTermOver(p, x) {
			t.Fatal("IsTerm", p, x)
		}
	}
}

// nodesOfKinds returns nodes of all kinds and of some numbers that are none, with Values and Names that are valid or not.
func nodesOfKinds() []impl.Node {
	var nodes []impl.Node
	for kind := -1; kind <= impl.TmName+2; kind++ {
		for _, value := range []int{-1, 0, 1, 2, 4, 5, maxWires, maxWires + 1, 96, 97} {
			nodes = append(nodes, impl.Node{Kind: kind, Value: value})
		}
		nodes = append(nodes, impl.Node{Kind: kind, Name: "a"}, impl.Node{Kind: kind, Name: " "}, impl.Node{Kind: kind, Value: math.MaxInt}, impl.Node{Kind: kind, Value: math.MinInt})
	}
	return append(nodes, impl.Node{Kind: math.MaxInt}, impl.Node{Kind: math.MinInt}, impl.Node{Kind: 256 + impl.TmCopy}, impl.Node{Kind: 1<<32 + impl.TmSeq})
}

func TestTermsAreValid(t *testing.T) {
	checkValid(t, impl.Term{})
	checkValid(t, impl.Term{Nodes: []impl.Node{}})
	nodes := nodesOfKinds()
	for _, n := range nodes {
		checkValid(t, termWith(n))
		for _, joint := range []int{impl.TmSeq, impl.TmPar} {
			checkValid(t, joinedTerms(joint, termWith(n), leafTerm(impl.TmCopy)))
			checkValid(t, joinedTerms(joint, idTerm(1), termWith(n)))
			checkValid(t, joinedTerms(joint, idTerm(0), idTerm(0), termWith(n)))
		}
		checkValid(t, termWith(impl.Node{Kind: impl.TmCopy}, impl.Node{Kind: impl.TmAdd}, n))
	}
	for p := range 100 {
		for _, factor := range []int{0, 1, p - 1, p, 96} {
			x := parOf(idTerm(11), scaleTerm(factor))
			y := seqOf(leafTerm(impl.TmZero), coscaleTerm(factor))
			if impl.IsTerm(p, x) != isTermOver(p, x) || impl.IsTerm(p, y) != isTermOver(p, y) {
				t.Error("IsTerm", p, x, y)
			}
		}
	}
}

// TestShortListsOfNodes goes through all lists of up to five nodes of a few kinds.
func TestShortListsOfNodes(t *testing.T) {
	nodes := []impl.Node{{Kind: impl.TmSeq}, {Kind: impl.TmPar}, {Kind: impl.TmCopy}, {Kind: impl.TmCoadd}, {Kind: impl.TmAdd}, {Kind: impl.TmZero}, {Kind: impl.TmId, Value: 7}, {Kind: impl.TmId}}
	for n := range 6 {
		for _, indices := range argumentLists(elementsOf(len(nodes)), n) {
			x := impl.Term{}
			for _, i := range indices {
				x.Nodes = append(x.Nodes, nodes[i])
			}
			checkValid(t, x)
		}
	}
}

func TestLimitsOfTerms(t *testing.T) {
	for n := 195; n <= 205; n++ {
		checkValid(t, chainTerm(n, leafTerm(impl.TmSwap)))
		checkValid(t, parOf(slices.Repeat([]impl.Term{idTerm(0)}, n)...))
		checkValid(t, impl.Term{Nodes: slices.Repeat([]impl.Node{{Kind: impl.TmId}}, 2*n)})
	}
	for a := range maxWires + 2 {
		for b := range maxWires + 2 {
			checkValid(t, parOf(idTerm(a), idTerm(b)))
			checkValid(t, parOf(idTerm(a), seqOf(idTerm(b), idTerm(b))))
			checkValid(t, seqOf(idTerm(a), idTerm(b)))
		}
	}
	for n := 1; n <= 14; n++ {
		for kind := impl.TmSwap; kind <= impl.TmCodelay; kind++ {
			wide := parOf(slices.Repeat([]impl.Term{leafTerm(kind)}, n)...)
			checkValid(t, wide)
			checkValid(t, parOf(wide, idTerm(0)))
		}
	}
	// All parts count, also those whose wires a composition hides.
	for n := 11; n <= 14; n++ {
		zeros := parOf(slices.Repeat([]impl.Term{leafTerm(impl.TmZero)}, n)...)
		discards := parOf(slices.Repeat([]impl.Term{leafTerm(impl.TmDiscard)}, n)...)
		checkValid(t, seqOf(zeros, discards))
		if impl.IsTerm(5, seqOf(zeros, discards)) != (n <= maxWires) {
			t.Error("IsTerm with hidden wires", n)
		}
	}
	if in, out, ok := impl.TypeOf(chainTerm(200, idTerm(12))); in != 12 || out != 12 || !ok {
		t.Error("type of a long chain", in, out, ok)
	}
	if _, _, ok := impl.TypeOf(chainTerm(201, idTerm(12))); ok {
		t.Error("a chain of 401 nodes is valid")
	}
}

func TestTypesOfTerms(t *testing.T) {
	for _, c := range termCases() {
		checkValid(t, c.t)
		if !impl.IsTerm(c.p, c.t) || !impl.IsTerm(97, c.t) {
			t.Fatal("no term", c)
		}
	}
	if impl.IsTerm(5, scaleTerm(5)) || !impl.IsTerm(7, scaleTerm(5)) || impl.IsTerm(5, coscaleTerm(96)) || !impl.IsTerm(97, coscaleTerm(96)) || impl.IsTerm(6, idTerm(1)) {
		t.Error("terms over fields")
	}
	if in, out, ok := impl.TypeOf(scaleTerm(96)); in != 1 || out != 1 || !ok {
		t.Error("type of a scale", in, out, ok)
	}
}

// checkJoined compares a result with a joined term, and its failure with its validity.
func checkJoined(t *testing.T, name string, a, b, got, want impl.Term, ok bool) {
	valid := isValidTerm(a) && isValidTerm(b) && isValidTerm(want)
	if !valid {
		want = impl.Term{}
	}
	if ok != valid || !sameTerm(got, want) {
		t.Fatal(name, a, b, got, ok)
	}
}

func checkJoins(t *testing.T, a, b impl.Term) {
	seq, ok := impl.SeqTerm(a, b)
	checkJoined(t, "composition", a, b, seq, seqOf(a, b), ok)
	par, ok := impl.ParTerm(a, b)
	checkJoined(t, "juxtaposition", a, b, par, parOf(a, b), ok)
}

func TestJoinedTerms(t *testing.T) {
	cases := termCases()
	for i, c := range cases {
		for _, step := range []int{0, 1, 7, 50, 333} {
			checkJoins(t, c.t, cases[(i+step)%len(cases)].t)
		}
	}
	small := smallTerms(3)
	for i, a := range small {
		for j := i % 5; j < len(small); j += 5 {
			checkJoins(t, a, small[j])
		}
	}
	for a := range 14 {
		for b := range 14 {
			checkJoins(t, idTerm(a), idTerm(b))
		}
	}
}

func TestLimitsOfJoinedTerms(t *testing.T) {
	swap := leafTerm(impl.TmSwap)
	for _, sizes := range [][2]int{{99, 101}, {100, 100}, {101, 100}, {100, 101}, {1, 199}, {199, 1}, {1, 200}, {200, 1}, {200, 200}, {201, 1}, {1, 201}} {
		a, b := chainTerm(sizes[0], swap), chainTerm(sizes[1], swap)
		checkJoins(t, a, b)
		if _, ok := impl.SeqTerm(a, b); ok != (sizes[0]+sizes[1] <= 200) {
			t.Error("composition of", sizes, ok)
		}
	}
	// The lists of nodes behind each other are a term, but they are not terms themselves.
	id := impl.Node{Kind: impl.TmId, Value: 1}
	for _, c := range [][2]impl.Term{
		{termWith(id, id, id), leafTerm(impl.TmSeq)}, {termWith(id, id), impl.Term{}}, {impl.Term{}, termWith(id, id)}, {termWith(id, id, id), leafTerm(impl.TmPar)},
		{idTerm(1), impl.Term{}}, {impl.Term{}, idTerm(1)}, {idTerm(13), idTerm(13)}, {idTerm(-1), idTerm(-1)}, {idTerm(0), idTerm(13)}, {scaleTerm(97), idTerm(1)}, {idTerm(1), leafTerm(impl.TmName)},
	} {
		checkJoins(t, c[0], c[1])
		if x, ok := impl.SeqTerm(c[0], c[1]); ok || len(x.Nodes) > 0 {
			t.Error("composition of invalid terms", c, x, ok)
		}
		if x, ok := impl.ParTerm(c[0], c[1]); ok || len(x.Nodes) > 0 {
			t.Error("juxtaposition of invalid terms", c, x, ok)
		}
	}
}

func TestMirroredTerms(t *testing.T) {
	for _, c := range termCases() {
		mirror, ok := impl.MirrorTerm(c.t)
		if back, again := impl.MirrorTerm(mirror); !ok || !again || !sameTerm(mirror, validTree(c.t).mirror()) || !sameTerm(back, c.t) {
			t.Fatal("mirror image", c, mirror, ok)
		}
		in, out, _ := impl.TypeOf(c.t)
		if mirrorIn, mirrorOut, ok := impl.TypeOf(mirror); !ok || mirrorIn != out || mirrorOut != in {
			t.Fatal("type of the mirror image", c, mirrorIn, mirrorOut, ok)
		}
	}
	example, ok := impl.MirrorTerm(seqOf(leafTerm(impl.TmCopy), leafTerm(impl.TmAdd)))
	if !ok || !sameTerm(example, seqOf(leafTerm(impl.TmCoadd), leafTerm(impl.TmCocopy))) {
		t.Error("mirror image of the example", example, ok)
	}
	beside, ok := impl.MirrorTerm(parOf(scaleTerm(3), leafTerm(impl.TmDelay)))
	if !ok || !sameTerm(beside, parOf(coscaleTerm(3), leafTerm(impl.TmCodelay))) {
		t.Error("mirror image of a juxtaposition", beside, ok)
	}
	for _, x := range invalidTerms() {
		if m, ok := impl.MirrorTerm(x); ok || len(m.Nodes) > 0 {
			t.Error("mirror image of an invalid term", x, m, ok)
		}
	}
}

// invalidTerms returns terms that are not valid, each for another reason.
func invalidTerms() []impl.Term {
	id := impl.Node{Kind: impl.TmId, Value: 1}
	return []impl.Term{
		{}, termWith(id, id), leafTerm(impl.TmSeq), leafTerm(impl.TmPar), termWith(id, impl.Node{Kind: impl.TmSeq}), termWith(id, impl.Node{Kind: impl.TmPar}), termWith(impl.Node{Kind: impl.TmSeq}, id, id), termWith(id, impl.Node{Kind: impl.TmPar}, id),
		leafTerm(0), leafTerm(-1), leafTerm(impl.TmName), termWith(impl.Node{Kind: impl.TmName, Name: "a"}), leafTerm(18), idTerm(-1), idTerm(13), scaleTerm(-1), scaleTerm(97), coscaleTerm(97), termWith(impl.Node{Kind: impl.TmCopy, Value: 1}), termWith(impl.Node{Kind: impl.TmSwap, Value: 2}),
		termWith(impl.Node{Kind: impl.TmId, Value: 1, Name: "id"}), termWith(id, id, impl.Node{Kind: impl.TmSeq, Value: 1}), termWith(id, id, impl.Node{Kind: impl.TmPar, Value: -1}), termWith(id, id, impl.Node{Kind: impl.TmSeq, Name: "a"}), termWith(id, id, impl.Node{Kind: impl.TmPar, Name: "a"}),
		seqOf(leafTerm(impl.TmCopy), leafTerm(impl.TmCopy)), seqOf(idTerm(0), idTerm(1)), parOf(idTerm(12), leafTerm(impl.TmZero)), parOf(idTerm(12), leafTerm(impl.TmDiscard)), seqOf(parOf(idTerm(7), idTerm(6)), parOf(idTerm(6), idTerm(7))),
		chainTerm(201, idTerm(1)), {Nodes: slices.Repeat([]impl.Node{id}, 400)}, {Nodes: slices.Repeat([]impl.Node{id}, 100000)}, {Nodes: slices.Repeat([]impl.Node{{Kind: impl.TmSeq}}, 100000)},
	}
}

func TestInvalidTerms(t *testing.T) {
	for _, x := range invalidTerms() {
		if isValidTerm(x) {
			t.Error("a valid term among the invalid ones", x)
		}
		checkValid(t, x)
	}
}

func TestPartsOfTerms(t *testing.T) {
	for _, c := range termCases() {
		for _, part := range validTree(c.t).all() {
			if s, ok := impl.SubtermAt(c.t, part.last); !ok || !sameTerm(s, part.term()) {
				t.Fatal("part", c, part.last, s, ok)
			}
		}
		for _, at := range []int{-1, len(c.t.Nodes), len(c.t.Nodes) + 1, math.MaxInt, math.MinInt} {
			if s, ok := impl.SubtermAt(c.t, at); ok || len(s.Nodes) > 0 {
				t.Fatal("part", c, at, s, ok)
			}
		}
	}
	for _, x := range invalidTerms() {
		for _, at := range []int{0, len(x.Nodes) - 1} {
			if s, ok := impl.SubtermAt(x, at); ok || len(s.Nodes) > 0 {
				t.Error("part of an invalid term", x, at, s, ok)
			}
		}
	}
}

// checkReplaced replaces a part of whole by s, and compares the result with the tree in which that part is another one.
func checkReplaced(t *testing.T, whole impl.Term, part tree, s impl.Term) {
	want := impl.Term{Nodes: slices.Concat(whole.Nodes[:part.first], s.Nodes, whole.Nodes[part.last+1:])}
	other, isTerm := treeOf(s)
	valid := isTerm && part.in == other.in && part.out == other.out && isValidTerm(want)
	if !valid {
		want = impl.Term{}
	}
	if got, ok := impl.ReplaceAt(whole, part.last, s); ok != valid || !sameTerm(got, want) {
		t.Fatal("replaced part", whole, part.last, s, got, ok)
	}
}

func TestReplacedParts(t *testing.T) {
	small := smallTerms(3)
	for i, c := range termCases() {
		for j, part := range validTree(c.t).all() {
			checkReplaced(t, c.t, part, part.term())
			checkReplaced(t, c.t, part, part.mirror())
			checkReplaced(t, c.t, part, seqOf(part.term(), idTerm(part.out)))
			checkReplaced(t, c.t, part, small[(i+j)%len(small)])
		}
		for _, at := range []int{-1, len(c.t.Nodes), math.MaxInt, math.MinInt} {
			if x, ok := impl.ReplaceAt(c.t, at, c.t); ok || len(x.Nodes) > 0 {
				t.Fatal("replaced part", c, at, x, ok)
			}
		}
	}
	for i, a := range small {
		for j := i % 11; j < len(small); j += 11 {
			checkReplaced(t, a, validTree(a), small[j])
			checkReplaced(t, a, validTree(a).all()[len(a.Nodes)-1], small[j])
		}
	}
}

func TestLimitsOfReplacedParts(t *testing.T) {
	swap := leafTerm(impl.TmSwap)
	for _, sizes := range [][2]int{{200, 1}, {200, 2}, {199, 2}, {199, 3}, {101, 100}, {102, 100}, {1, 200}, {1, 201}, {201, 1}, {2, 199}, {2, 200}} {
		whole, s := chainTerm(sizes[0], swap), chainTerm(sizes[1], swap)
		fits := sizes[0] <= 200 && sizes[1] <= 200 && sizes[0]-1+sizes[1] <= 200
		for _, at := range []int{0, min(1, len(whole.Nodes)-1)} {
			if x, ok := impl.ReplaceAt(whole, at, s); ok != fits || ok && len(x.Nodes) != 2*(sizes[0]+sizes[1])-3 {
				t.Error("replaced part of", sizes, at, ok)
			}
		}
	}
	if x, ok := impl.ReplaceAt(chainTerm(200, swap), 398, chainTerm(200, swap)); !ok || len(x.Nodes) != 399 {
		t.Error("the whole term replaced", ok)
	}
	for _, x := range invalidTerms() {
		for _, at := range []int{0, len(x.Nodes) - 1} {
			if got, ok := impl.ReplaceAt(x, at, idTerm(1)); ok || len(got.Nodes) > 0 {
				t.Error("replaced part of an invalid term", x, at, got, ok)
			}
		}
		if got, ok := impl.ReplaceAt(idTerm(1), 0, x); ok || len(got.Nodes) > 0 {
			t.Error("replaced by an invalid term", x, got, ok)
		}
	}
}

func TestCountedKinds(t *testing.T) {
	for _, c := range termCases() {
		want := make([]int, 16)
		for kind := impl.TmId; kind <= impl.TmPar; kind++ {
			for _, part := range validTree(c.t).all() {
				if part.node.Kind == kind {
					want[kind-1]++
				}
			}
		}
		if counts, ok := impl.CountKinds(c.t); !ok || !slices.Equal(counts, want) {
			t.Fatal("kinds", c, counts, ok)
		}
	}
	for _, x := range invalidTerms() {
		if counts, ok := impl.CountKinds(x); ok || len(counts) > 0 {
			t.Error("kinds of an invalid term", x, counts, ok)
		}
	}
}

func TestWidthsOfTerms(t *testing.T) {
	for _, c := range termCases() {
		whole := validTree(c.t)
		if width, depth, ok := impl.WidthOf(c.t); !ok || width != whole.width() || depth != whole.depth() {
			t.Fatal("width", c, width, depth, ok)
		}
	}
	bubble := seqOf(leafTerm(impl.TmZero), leafTerm(impl.TmCopy), leafTerm(impl.TmSwap), parOf(leafTerm(impl.TmDiscard), leafTerm(impl.TmDiscard)))
	for _, c := range []struct {
		t            impl.Term
		width, depth int
	}{
		{idTerm(0), 0, 1}, {idTerm(12), 12, 1}, {leafTerm(impl.TmZero), 1, 1}, {leafTerm(impl.TmCozero), 1, 1}, {leafTerm(impl.TmCoadd), 2, 1}, {leafTerm(impl.TmAdd), 2, 1},
		{bubble, 2, 4}, {parOf(bubble, idTerm(1)), 3, 4}, {parOf(idTerm(3), bubble, bubble), 7, 4}, {seqOf(idTerm(12), idTerm(12)), 12, 2},
		// The width may be greater than MaxWires.
		{parOf(slices.Repeat([]impl.Term{bubble}, 20)...), 40, 4}, {parOf(idTerm(12), bubble), 14, 4}, {chainTerm(200, idTerm(0)), 0, 200},
	} {
		if width, depth, ok := impl.WidthOf(c.t); !ok || width != c.width || depth != c.depth {
			t.Error("width", c, width, depth, ok)
		}
	}
	for _, x := range invalidTerms() {
		if width, depth, ok := impl.WidthOf(x); ok || width != 0 || depth != 0 {
			t.Error("width of an invalid term", x, width, depth, ok)
		}
	}
}
