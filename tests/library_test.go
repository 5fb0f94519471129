package tests

import (
	"slices"
	"strings"
	"testing"

	"loop.example/g01073/impl"
)

// This file tests which lists of definitions are libraries, and how names are expanded, inlined and folded (P7).

func TestConstantsOfLibraries(t *testing.T) {
	if impl.MaxDefs != maxDefs || impl.MaxName != 8 || impl.MaxExpanded != maxExpanded {
		t.Error("limits", impl.MaxDefs, impl.MaxName, impl.MaxExpanded)
	}
}

// checkLibraryValid compares the validity of a list of definitions with the one that the tests find.
func checkLibraryValid(t *testing.T, lib []impl.Def) {
	if ok := impl.IsLibrary(lib); ok != isLibrary(lib) {
		t.Fatal("IsLibrary", ok, lib)
	}
}

func TestLibrariesAreValid(t *testing.T) {
	for _, lib := range append(libraries(), greatLibraries()...) {
		if !impl.IsLibrary(lib) {
			t.Error("no library", lib)
		}
	}
	for i, lib := range invalidLibraries() {
		if impl.IsLibrary(lib) {
			t.Error("a library, although it is not valid", i)
		}
	}
	for _, c := range libraryCases() {
		checkLibraryValid(t, c.lib)
		checkLibraryValid(t, append(slices.Clone(c.lib), impl.Def{Name: "more", In: 1, Out: 1, Body: c.x}))
		for i := range c.lib {
			checkLibraryValid(t, c.lib[i:])
			checkLibraryValid(t, slices.Delete(slices.Clone(c.lib), i, i+1))
			exchanged := slices.Clone(c.lib)
			exchanged[0], exchanged[i] = exchanged[i], exchanged[0]
			checkLibraryValid(t, exchanged)
			changed := slices.Clone(c.lib)
			changed[i].Body = c.x
			checkLibraryValid(t, changed)
			changed[i] = c.lib[i]
			changed[i].Out++
			checkLibraryValid(t, changed)
		}
	}
}

// TestNamesOfDefinitions goes through all names of one byte and of two, and names of many lengths.
func TestNamesOfDefinitions(t *testing.T) {
	var names []string
	for a := range 256 {
		names = append(names, string([]byte{byte(a)}))
		for b := range 256 {
			names = append(names, string([]byte{byte(a), byte(b)}))
		}
	}
	for n := range 20 {
		names = append(names, strings.Repeat("a", n), "a"+strings.Repeat("0", n), "scale"+strings.Repeat("s", n), strings.Repeat("a", n)+"\n")
	}
	for _, word := range leafNames[1:] {
		names = append(names, word, word+"0", word[:len(word)-1], strings.ToUpper(word))
	}
	for _, name := range names {
		d := impl.Def{Name: name, Body: idTerm(0)}
		if ok := impl.IsLibrary([]impl.Def{d}); ok != isName(name) {
			t.Errorf("definition of %q: %v", name, ok)
		}
	}
}

// checkTypeIn compares the type of x with the one that the tests read, for a valid library.
func checkTypeIn(t *testing.T, lib []impl.Def, x impl.Term) {
	want, valid := treeIn(lib, x)
	if in, out, ok := impl.TypeIn(lib, x); ok != valid || in != want.in || out != want.out {
		t.Fatal("type", lib, x, in, out, ok)
	}
}

func TestTypesOfNames(t *testing.T) {
	for _, c := range libraryCases() {
		checkTypeIn(t, c.lib, c.x)
		if _, _, ok := impl.TypeIn(c.lib, c.x); !ok {
			t.Fatal("no term", c)
		}
		for _, name := range namesOf(c.lib) {
			checkTypeIn(t, c.lib, nameTerm(name))
			checkTypeIn(t, c.lib, seqOf(c.x, nameTerm(name)))
			checkTypeIn(t, c.lib, parOf(c.x, nameTerm(name)))
		}
	}
	full := fullLibrary()
	for _, n := range nodesOfKinds() {
		for _, name := range []string{n.Name, "twice", "copy"} {
			n.Name = name
			checkTypeIn(t, full, termWith(n))
			checkTypeIn(t, full, termWith(impl.Node{Kind: impl.TmName, Name: "twice"}, impl.Node{Kind: impl.TmName, Name: "id1"}, n))
		}
	}
	for n := 198; n <= 202; n++ {
		checkTypeIn(t, full, chainTerm(n, nameTerm("wide")))
		checkTypeIn(t, full, parOf(slices.Repeat([]impl.Term{nameTerm("empty")}, n)...))
	}
	for n := 11; n <= 14; n++ {
		checkTypeIn(t, full, parOf(slices.Repeat([]impl.Term{nameTerm("a")}, n)...))
		checkTypeIn(t, full, parOf(idTerm(n-2), nameTerm("longname")))
	}
	if in, out, ok := impl.TypeIn(full, nameTerm("swapped")); in != 1 || out != 3 || !ok {
		t.Error("type of swapped", in, out, ok)
	}
}

// checkExpanded compares the expansion of a term of a library and its size with those that the tests make.
func checkExpanded(t *testing.T, lib []impl.Def, x impl.Term) {
	wantSize := expandedSize(lib, x)
	var want impl.Term
	if isAtMost(wantSize, maxNodes) {
		want = expanded(lib, x)
	}
	got, ok := impl.Expand(lib, x)
	if ok != isAtMost(wantSize, maxNodes) || !sameTerm(got, want) || ok && !isValidTerm(got) {
		t.Fatal("expansion", lib, x, got, ok)
	}
	size, ok := impl.ExpandedSize(lib, x)
	if ok != isAtMost(wantSize, maxExpanded) || ok && wantSize.Int64() != int64(size) || !ok && size != 0 {
		t.Fatal("size of the expansion", lib, x, size, ok, wantSize)
	}
}

// checkSameExpansion checks that two terms of a library have the same expansion, or two of the same size that are too long.
func checkSameExpansion(t *testing.T, lib []impl.Def, x, y impl.Term) {
	a, isA := impl.Expand(lib, x)
	b, isB := impl.Expand(lib, y)
	if isA != isB || !sameTerm(a, b) || expandedSize(lib, x).Cmp(expandedSize(lib, y)) != 0 {
		t.Fatal("expansions differ", lib, x, y)
	}
}

// checkInlined compares x with a name inlined with the term that the tests make, for any name, and its expansion with that of x.
func checkInlined(t *testing.T, lib []impl.Def, x impl.Term, name string) {
	var want impl.Term
	if isDefined(lib, name) {
		want = inlined(lib, x, defOf(lib, name))
	}
	valid := len(want.Nodes) > 0 && len(want.Nodes) <= maxNodes
	if !valid {
		want = impl.Term{}
	}
	got, ok := impl.InlineName(lib, x, name)
	if ok != valid || !sameTerm(got, want) {
		t.Fatal("inlined", lib, x, name, got, ok)
	}
	if ok {
		checkSameExpansion(t, lib, x, got)
	}
}

// checkFolded compares x with a name folded with the term that the tests make, for any name, and its expansion with that of x.
func checkFolded(t *testing.T, lib []impl.Def, x impl.Term, name string) {
	var want impl.Term
	if isDefined(lib, name) {
		want = folded(lib, x, defOf(lib, name))
	}
	got, ok := impl.FoldName(lib, x, name)
	if ok != isDefined(lib, name) || !sameTerm(got, want) {
		t.Fatal("folded", lib, x, name, got, ok)
	}
	if !ok {
		return
	}
	checkSameExpansion(t, lib, x, got)
	back, isBack := impl.InlineName(lib, got, name)
	if want, ok := impl.InlineName(lib, x, name); isBack != ok || !sameTerm(back, want) {
		t.Fatal("inlined after it was folded", lib, x, name, back)
	}
}

// checkNames checks all that is done with the names in a term of a library.
func checkNames(t *testing.T, lib []impl.Def, x impl.Term) {
	checkExpanded(t, lib, x)
	for _, name := range namesOf(lib) {
		checkInlined(t, lib, x, name)
		checkFolded(t, lib, x, name)
	}
	if names, ok := impl.UsedNames(lib, x); !ok || !slices.Equal(names, usedNames(lib, x)) {
		t.Fatal("used names", lib, x, names, ok)
	}
}

func TestNamesInTerms(t *testing.T) {
	for _, c := range libraryCases() {
		checkNames(t, c.lib, c.x)
		if y, ok := impl.Expand(c.lib, c.x); ok {
			checkNames(t, c.lib, y)
		}
		for i, d := range c.lib {
			if y, ok := impl.InlineName(c.lib, c.x, d.Name); ok && i%3 == len(c.x.Nodes)%3 {
				checkNames(t, c.lib, y)
			}
		}
	}
}

// TestNamesInSmallTerms goes through all terms of up to four leaves, in all nestings.
func TestNamesInSmallTerms(t *testing.T) {
	id, g := idTerm(1), nameTerm("g")
	lib := withDef(nil, "f", id)
	lib = withDef(lib, "g", seqOf(id, id))
	lib = withDef(lib, "h", seqOf(g, g))
	lib = withDef(lib, "k", g)
	lib = withDef(lib, "l", parOf(id, nameTerm("h")))
	for _, x := range nestedTerms(lib, []impl.Term{id, g, nameTerm("h"), nameTerm("l")}) {
		checkNames(t, lib, x)
	}
}

// TestExamplesOfNames has results that are written out.
func TestExamplesOfNames(t *testing.T) {
	lib, ok := impl.ParseLibrary("f = copy ; add\ng = f ; f\nh = copy\nk = g * g\n")
	if !ok {
		t.Fatal("no library")
	}
	for _, c := range []struct{ text, expanded, inlinedF, foldedF, foldedG, foldedH string }{
		{"f", "copy ; add", "copy ; add", "f", "f", "f"},
		{"id 0", "id 0", "id 0", "id 0", "id 0", "id 0"},
		{"k", "((copy ; add) ; (copy ; add)) * ((copy ; add) ; (copy ; add))", "k", "k", "k", "k"},
		{"g * f", "(copy ; add ; (copy ; add)) * (copy ; add)", "g * (copy ; add)", "g * f", "g * f", "g * f"},
		// A name that is folded is no part of what is folded next, and parts inside other parts are folded.
		{"copy ; add ; (copy ; add)", "copy ; add ; (copy ; add)", "copy ; add ; (copy ; add)", "f ; f", "copy ; add ; (copy ; add)", "h ; add ; (h ; add)"},
		{"f ; f ; f ; f", "copy ; add ; (copy ; add) ; (copy ; add) ; (copy ; add)", "copy ; add ; (copy ; add) ; (copy ; add) ; (copy ; add)", "f ; f ; f ; f", "g ; f ; f", "f ; f ; f ; f"},
		{"f ; f ; (f ; f)", "copy ; add ; (copy ; add) ; ((copy ; add) ; (copy ; add))", "copy ; add ; (copy ; add) ; ((copy ; add) ; (copy ; add))", "f ; f ; (f ; f)", "g ; g", "f ; f ; (f ; f)"},
		// The same leaves in another nesting are no such part.
		{"scale 1 ; copy ; add", "scale 1 ; copy ; add", "scale 1 ; copy ; add", "scale 1 ; copy ; add", "scale 1 ; copy ; add", "scale 1 ; h ; add"},
		{"scale 1 ; (copy ; add)", "scale 1 ; (copy ; add)", "scale 1 ; (copy ; add)", "scale 1 ; f", "scale 1 ; (copy ; add)", "scale 1 ; (h ; add)"},
	} {
		x := parsed(t, lib, c.text)
		if y, ok := impl.Expand(lib, x); !ok || !sameTerm(y, parsed(t, lib, c.expanded)) {
			t.Error("expansion of", c.text, y)
		}
		if y, ok := impl.InlineName(lib, x, "f"); !ok || !sameTerm(y, parsed(t, lib, c.inlinedF)) {
			t.Error("f inlined in", c.text, y)
		}
		for name, want := range map[string]string{"f": c.foldedF, "g": c.foldedG, "h": c.foldedH} {
			if y, ok := impl.FoldName(lib, x, name); !ok || !sameTerm(y, parsed(t, lib, want)) {
				t.Error(name, "folded in", c.text, y)
			}
		}
	}
}

func parsed(t *testing.T, lib []impl.Def, s string) impl.Term {
	x, _, code := readText(lib, s)
	if code != impl.SxOk {
		t.Fatal("no term", s, code)
	}
	return x
}

// TestLimitsOfExpansions has expansions of 399 and of 401 nodes, as every term has an odd number of them.
func TestLimitsOfExpansions(t *testing.T) {
	id := idTerm(1)
	for _, c := range []struct {
		copies []int
		more   int
		ok     bool
	}{
		{[]int{200}, 0, true}, {[]int{199}, 1, true}, {[]int{200}, 1, false}, {[]int{199}, 2, false}, {[]int{100, 2}, 0, true}, {[]int{100, 2}, 1, false}, {[]int{99, 2}, 2, true}, {[]int{99, 2}, 3, false}, {[]int{10, 20}, 0, true}, {[]int{10, 20}, 1, false}, {[]int{1, 200}, 0, true}, {[]int{1, 1, 200}, 0, true},
		{[]int{2, 2, 2, 5, 5}, 0, true}, {[]int{2, 2, 2, 5, 5}, 1, false}, {[]int{2, 2, 2, 2, 2, 2, 2}, 72, true}, {[]int{2, 2, 2, 2, 2, 2, 2}, 73, false}, {[]int{200, 200}, 0, false}, {slices.Repeat([]int{1}, maxDefs), 199, true}, {slices.Repeat([]int{200}, maxDefs), 0, false},
	} {
		lib := chainLibrary(c.copies...)
		for _, x := range []impl.Term{seqOf(slices.Concat([]impl.Term{lastName(lib)}, slices.Repeat([]impl.Term{id}, c.more))...), seqOf(slices.Concat(slices.Repeat([]impl.Term{id}, c.more), []impl.Term{lastName(lib)})...)} {
			checkNames(t, lib, x)
			if y, ok := impl.Expand(lib, x); ok != c.ok {
				t.Error("expansion", c, len(y.Nodes), ok)
			}
		}
	}
	// What is not used may be as long as it is, and what is used may be as long as a term.
	great := chainLibrary(slices.Repeat([]int{200}, maxDefs)...)
	if x, ok := impl.Expand(great, chainTerm(200, id)); !ok || !sameTerm(x, chainTerm(200, id)) {
		t.Error("expansion without names", len(x.Nodes), ok)
	}
	if x, ok := impl.Expand(great, nameTerm("chaina")); !ok || len(x.Nodes) != 399 {
		t.Error("expansion of the first definition", len(x.Nodes), ok)
	}
}

// TestLimitsOfExpandedSizes has sizes near MaxExpanded, and great ones that an int would have to wrap around for.
func TestLimitsOfExpandedSizes(t *testing.T) {
	id := idTerm(1)
	lib := chainLibrary(50, 100, 100)
	most := lastName(lib)
	if size, ok := impl.ExpandedSize(lib, most); size != maxExpanded-1 || !ok {
		t.Error("the greatest size", size, ok)
	}
	for _, x := range []impl.Term{seqOf(most, id), parOf(most, idTerm(0)), seqOf(id, most), seqOf(most, most), chainTerm(200, most)} {
		if size, ok := impl.ExpandedSize(lib, x); size != 0 || ok {
			t.Error("size that is too great", len(x.Nodes), size, ok)
		}
	}
	less := chainLibrary(50, 100, 99)
	for _, n := range []int{48, 49, 50, 51} {
		checkExpanded(t, less, seqOf(lastName(less), chainTerm(99, nameTerm("chaina")), chainTerm(n, id)))
	}
	for _, copies := range []int{1, 2, 3, 7, 16, 32, 64, 100, 128, 199, 200} {
		for n := 1; n <= maxDefs; n++ {
			lib := chainLibrary(slices.Repeat([]int{copies}, n)...)
			for _, x := range []impl.Term{lastName(lib), seqOf(lastName(lib), id), chainTerm(2, lastName(lib)), chainTerm(128, lastName(lib)), chainTerm(200, lastName(lib))} {
				checkExpanded(t, lib, x)
			}
			for _, d := range lib {
				checkExpanded(t, lib, nameTerm(d.Name))
			}
		}
	}
}

// TestLimitsOfInlinedNames has results of 399 and of 401 nodes.
func TestLimitsOfInlinedNames(t *testing.T) {
	id := idTerm(1)
	for _, c := range []struct {
		size, names, others int
		ok                  bool
	}{
		{200, 1, 0, true}, {200, 1, 1, false}, {199, 1, 1, true}, {199, 1, 2, false}, {100, 2, 0, true}, {100, 2, 1, false}, {2, 100, 0, true}, {2, 99, 2, true}, {2, 99, 3, false}, {2, 101, 0, false}, {1, 200, 0, true}, {200, 200, 0, false}, {3, 66, 2, true}, {3, 66, 3, false},
	} {
		lib := withDef(nil, "f", id)
		lib = withDef(lib, "g", chainTerm(c.size, nameTerm("f")))
		lib = withDef(lib, "unused", chainTerm(200, id))
		leaves := slices.Concat(slices.Repeat([]impl.Term{id}, c.others/2), slices.Repeat([]impl.Term{nameTerm("g")}, c.names), slices.Repeat([]impl.Term{id}, c.others-c.others/2))
		x := seqOf(leaves...)
		checkNames(t, lib, x)
		if y, ok := impl.InlineName(lib, x, "g"); ok != c.ok {
			t.Error("inlined", c, len(y.Nodes), ok)
		}
		if y, ok := impl.InlineName(lib, x, "unused"); !ok || !sameTerm(y, x) {
			t.Error("inlined a name that does not occur", c, len(y.Nodes), ok)
		}
	}
	// The name inlined stays short where the other names in its Body are long.
	great := chainLibrary(slices.Repeat([]int{200}, maxDefs)...)
	if x, ok := impl.InlineName(great, lastName(great), great[11].Name); !ok || !sameTerm(x, great[11].Body) {
		t.Error("inlined the last name", len(x.Nodes), ok)
	}
}

// TestLimitsOfFoldedNames folds Bodies of one node and as long as a term may be.
func TestLimitsOfFoldedNames(t *testing.T) {
	id, empty := idTerm(1), idTerm(0)
	lib := withDef(nil, "long", chainTerm(200, id))
	lib = withDef(lib, "short", id)
	lib = withDef(lib, "same", nameTerm("short"))
	lib = withDef(lib, "nothing", empty)
	for _, x := range []impl.Term{
		chainTerm(200, id), chainTerm(199, id), chainTerm(200, nameTerm("short")), chainTerm(200, nameTerm("same")), nameTerm("long"), nameTerm("short"), chainTerm(200, empty), parOf(slices.Repeat([]impl.Term{empty}, 200)...), seqOf(id, chainTerm(199, id)), empty, id, scaleTerm(1), idTerm(2), parOf(id, id), seqOf(chainTerm(100, id), chainTerm(100, id)),
	} {
		checkNames(t, lib, x)
	}
	if x, ok := impl.FoldName(lib, chainTerm(200, id), "long"); !ok || !sameTerm(x, nameTerm("long")) {
		t.Error("folded a long term", x, ok)
	}
	if x, ok := impl.FoldName(lib, chainTerm(200, id), "short"); !ok || !sameTerm(x, chainTerm(200, nameTerm("short"))) {
		t.Error("folded leaves", x, ok)
	}
	if x, ok := impl.FoldName(lib, nameTerm("short"), "same"); !ok || !sameTerm(x, nameTerm("same")) {
		t.Error("folded a name", x, ok)
	}
	if x, ok := impl.FoldName(lib, nameTerm("same"), "same"); !ok || !sameTerm(x, nameTerm("same")) {
		t.Error("folded the name itself", x, ok)
	}
}
