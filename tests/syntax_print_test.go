package tests

import (
	"math/rand/v2"
	"slices"
	"strings"
	"testing"

	"loop.example/g01073/impl"
)

// This file tests the texts of terms, and that they are read back (P6).

// checkPrinted compares the texts of a term of a valid library with those that the tests print, and reads them back.
func checkPrinted(t *testing.T, lib []impl.Def, x impl.Term) {
	whole, isTerm := treeIn(lib, x)
	for _, isFull := range []bool{false, true} {
		print, want := impl.PrintTerm, ""
		if isFull {
			print = impl.PrintFull
		}
		if isTerm {
			want = printed(whole, isFull)
		}
		s, ok := print(lib, x)
		if s != want || ok != isTerm {
			t.Fatalf("text of %v, full: %v: %q %v, not %q %v", x, isFull, s, ok, want, isTerm)
		}
		if back, at, code := impl.ParseTerm(lib, s); isTerm && (!sameTerm(back, x) || at != 0 || code != impl.SxOk) {
			t.Fatalf("term of the text %q of %v: %v %d %d", s, x, back, at, code)
		}
	}
}

func TestPrintedTerms(t *testing.T) {
	for _, c := range termCases() {
		checkPrinted(t, nil, c.t)
	}
	for _, x := range smallTerms(97) {
		checkPrinted(t, nil, x)
	}
	for _, x := range slices.Concat(invalidTerms(), oddLeaves()) {
		checkPrinted(t, nil, x)
		checkPrinted(t, fullLibrary(), x)
	}
}

func TestPrintedNames(t *testing.T) {
	lib := fullLibrary()
	for _, x := range nestedTerms(lib[:2], []impl.Term{idTerm(1), scaleTerm(3), nameTerm("twice"), nameTerm("a")}) {
		checkPrinted(t, lib[:2], x)
	}
	for i, d := range lib {
		checkPrinted(t, lib, d.Body)
		checkPrinted(t, lib, nameTerm(d.Name))
		checkPrinted(t, lib[:i], nameTerm(d.Name))
		checkPrinted(t, lib[:i+1], seqOf(nameTerm(d.Name), idTerm(d.Out)))
		checkPrinted(t, lib, seqOf(nameTerm(d.Name), idTerm(d.Out+1)))
		checkPrinted(t, lib, termWith(impl.Node{Kind: impl.TmName, Value: 1, Name: d.Name}))
		checkPrinted(t, lib, termWith(impl.Node{Kind: impl.TmCopy, Name: d.Name}))
		checkPrinted(t, lib, termWith(impl.Node{Kind: impl.TmName + 1, Name: d.Name}))
		checkPrinted(t, lib, parOf(nameTerm(d.Name), idTerm(maxWires+1-max(d.In, d.Out))))
	}
	checkPrinted(t, lib, nameTerm(""))
	checkPrinted(t, lib, chainTerm(200, nameTerm("wide")))
	checkPrinted(t, lib, chainTerm(201, nameTerm("wide")))
	for _, invalid := range invalidLibraries() {
		for _, x := range []impl.Term{idTerm(1), nameTerm("twice"), nameTerm("b"), {}} {
			for _, print := range []func([]impl.Def, impl.Term) (string, bool){impl.PrintTerm, impl.PrintFull} {
				if s, ok := print(invalid, x); ok || s != "" {
					t.Error("text of a term of an invalid library", len(invalid), x, s, ok)
				}
			}
		}
	}
}

func TestExamplesOfPrintedTerms(t *testing.T) {
	copies, add, swap := leafTerm(impl.TmCopy), leafTerm(impl.TmAdd), leafTerm(impl.TmSwap)
	for _, c := range []struct {
		x          impl.Term
		text, full string
	}{
		{copies, "copy", "copy"}, {idTerm(0), "id 0", "id 0"}, {idTerm(12), "id 12", "id 12"}, {scaleTerm(96), "scale 96", "scale 96"}, {coscaleTerm(0), "coscale 0", "coscale 0"}, {leafTerm(impl.TmCodelay), "codelay", "codelay"}, {nameTerm("twice"), "twice", "twice"},
		{seqOf(copies, add), "copy ; add", "copy ; add"}, {parOf(copies, add), "copy * add", "copy * add"},
		{seqOf(copies, swap, add), "copy ; swap ; add", "(copy ; swap) ; add"}, {seqOf(copies, seqOf(swap, add)), "copy ; (swap ; add)", "copy ; (swap ; add)"},
		{parOf(copies, swap, add), "copy * swap * add", "(copy * swap) * add"}, {parOf(copies, parOf(swap, add)), "copy * (swap * add)", "copy * (swap * add)"},
		{seqOf(copies, parOf(idTerm(1), copies)), "copy ; id 1 * copy", "copy ; (id 1 * copy)"}, {seqOf(parOf(copies, copies), parOf(add, add)), "copy * copy ; add * add", "(copy * copy) ; (add * add)"},
		{parOf(seqOf(copies, add), idTerm(1)), "(copy ; add) * id 1", "(copy ; add) * id 1"}, {parOf(idTerm(1), seqOf(copies, add)), "id 1 * (copy ; add)", "id 1 * (copy ; add)"}, {parOf(parOf(add, add), parOf(add, add)), "add * add * (add * add)", "(add * add) * (add * add)"},
		{seqOf(seqOf(copies, swap), seqOf(swap, add)), "copy ; swap ; (swap ; add)", "(copy ; swap) ; (swap ; add)"}, {parOf(nameTerm("twice"), seqOf(nameTerm("twice"), scaleTerm(2)), nameTerm("a")), "twice * (twice ; scale 2) * a", "(twice * (twice ; scale 2)) * a"},
	} {
		lib := fullLibrary()
		if s, ok := impl.PrintTerm(lib, c.x); s != c.text || !ok {
			t.Errorf("text of %v: %q %v", c.x, s, ok)
		}
		if s, ok := impl.PrintFull(lib, c.x); s != c.full || !ok {
			t.Errorf("full text of %v: %q %v", c.x, s, ok)
		}
	}
}

// TestRewrittenTexts reads texts as they may be written, and prints them with few and with all parentheses.
func TestRewrittenTexts(t *testing.T) {
	source := rand.New(rand.NewPCG(6, 2))
	for _, c := range termCases() {
		whole := validTree(c.t)
		s := randomText(source, whole)
		if len(s) > maxText {
			continue
		}
		x, _, _ := impl.ParseTerm(nil, s)
		short, isShort := impl.PrintTerm(nil, x)
		full, isFull := impl.PrintFull(nil, x)
		if !isShort || !isFull || short != printed(whole, false) || full != printed(whole, true) {
			t.Fatalf("texts of %q: %q %v %q %v", s, short, isShort, full, isFull)
		}
		if strings.Count(short, "(") > strings.Count(full, "(") {
			t.Fatalf("few parentheses in %q, all in %q", short, full)
		}
	}
}
