package tests

import (
	"slices"
	"testing"

	"loop.example/g01073/impl"
)

// This file tests used names, depths, and definitions that are added, removed and renamed (P7).

// TestUsedNamesAreInOrder has names that occur in another order than that of the library, more than once, and behind other names.
func TestUsedNamesAreInOrder(t *testing.T) {
	full := fullLibrary()
	for _, c := range []struct {
		x    impl.Term
		want []string
	}{
		{idTerm(1), nil}, {leafTerm(impl.TmCopy), nil}, {scaleTerm(4), nil}, {nameTerm("twice"), []string{"twice"}}, {chainTerm(200, nameTerm("twice")), []string{"twice"}}, {parOf(nameTerm("z9"), nameTerm("scal"), nameTerm("a"), nameTerm("twice")), []string{"twice", "a", "scal", "z9"}},
		{nameTerm("x0"), []string{"twice", "id1", "x0"}}, {nameTerm("long"), []string{"twice", "longname", "wide", "long"}}, {nameTerm("swapped"), []string{"a", "empty", "copies", "swapped"}}, {parOf(nameTerm("x0"), nameTerm("swapped")), []string{"twice", "a", "empty", "id1", "x0", "copies", "swapped"}},
	} {
		if names, ok := impl.UsedNames(full, c.x); !ok || !slices.Equal(names, c.want) {
			t.Error("used names", c.x, names, ok)
		}
	}
	var all []string
	great := chainLibrary(slices.Repeat([]int{200}, maxDefs)...)
	for _, d := range great {
		all = append(all, d.Name)
		if names, ok := impl.UsedNames(great, nameTerm(d.Name)); !ok || !slices.Equal(names, all) {
			t.Error("used names of a chain", d.Name, names, ok)
		}
	}
}

// knotLibrary returns a library in which every Body has all earlier names.
func knotLibrary() []impl.Def {
	lib := chainLibrary(1)
	for _, name := range []string{"b", "c", "d", "e", "f", "g", "h", "i", "j", "k", "l"} {
		var names []impl.Term
		for _, d := range lib {
			names = append(names, nameTerm(d.Name))
		}
		lib = withDef(lib, name, seqOf(append(names, idTerm(1))...))
	}
	return lib
}

func TestDepthsOfNames(t *testing.T) {
	libs := append(libraries(), knotLibrary(), chainLibrary(slices.Repeat([]int{200}, maxDefs)...))
	for _, c := range libraryCases() {
		libs = append(libs, c.lib)
	}
	for _, lib := range libs {
		for _, name := range namesOf(lib) {
			want := 0
			if isDefined(lib, name) {
				want = nameDepth(lib, name)
			}
			if depth, ok := impl.NameDepth(lib, name); depth != want || ok != isDefined(lib, name) {
				t.Fatal("depth", lib, name, depth, ok)
			}
		}
	}
	full := fullLibrary()
	for name, want := range map[string]int{"twice": 1, "a": 1, "longname": 2, "empty": 1, "wide": 3, "id1": 2, "x0": 3, "copies": 1, "swapped": 2, "long": 4, "z9": 1} {
		if depth, ok := impl.NameDepth(full, name); depth != want || !ok {
			t.Error("depth of", name, depth, ok)
		}
	}
	if depth, ok := impl.NameDepth(knotLibrary(), "l"); depth != maxDefs || !ok {
		t.Error("the greatest depth", depth, ok)
	}
}

// checkAdded compares the library with d with the one that the tests make.
func checkAdded(t *testing.T, lib []impl.Def, d impl.Def) {
	want := append(slices.Clone(lib), d)
	valid := isLibrary(want)
	if !valid {
		want = nil
	}
	if got, ok := impl.AddDef(lib, d); ok != valid || !sameLibrary(got, want) {
		t.Fatal("added", lib, d, got, ok)
	}
}

func TestAddedDefinitions(t *testing.T) {
	for _, lib := range append(libraries(), invalidLibraries()...) {
		for _, d := range oddDefs() {
			checkAdded(t, lib, d)
		}
	}
	for _, c := range libraryCases() {
		x, _ := treeIn(c.lib, c.x)
		for _, name := range append(namesOf(c.lib), "new", "longname", "longnames") {
			checkAdded(t, c.lib, impl.Def{Name: name, In: x.in, Out: x.out, Body: c.x})
			checkAdded(t, c.lib, impl.Def{Name: name, In: x.in, Out: x.out + 1, Body: c.x})
			checkAdded(t, c.lib, impl.Def{Name: name, In: x.in - 1, Out: x.out, Body: c.x})
		}
	}
	// The library is built up one definition after the other, and no more than MaxDefs fit.
	var lib []impl.Def
	for i, d := range fullLibrary() {
		added, ok := impl.AddDef(lib, d)
		if !ok || !sameLibrary(added, fullLibrary()[:i+1]) {
			t.Fatal("added", d.Name, ok)
		}
		lib = added
	}
	if got, ok := impl.AddDef(lib, impl.Def{Name: "more", In: 1, Out: 1, Body: idTerm(1)}); ok || len(got) > 0 {
		t.Error("added one definition too many", got, ok)
	}
}

// checkRemoved compares the library without a name with the one that the tests make, for a valid library.
func checkRemoved(t *testing.T, lib []impl.Def, name string) {
	want := slices.DeleteFunc(slices.Clone(lib), func(d impl.Def) bool { return d.Name == name })
	valid := isDefined(lib, name) && isLibrary(want)
	if !valid {
		want = nil
	}
	if got, ok := impl.RemoveDef(lib, name); ok != valid || !sameLibrary(got, want) {
		t.Fatal("removed", lib, name, got, ok)
	}
}

func TestRemovedDefinitions(t *testing.T) {
	for _, c := range libraryCases() {
		for _, name := range namesOf(c.lib) {
			checkRemoved(t, c.lib, name)
		}
	}
	full := fullLibrary()
	for _, d := range full {
		isFree := slices.Contains([]string{"x0", "swapped", "scal", "long", "z9"}, d.Name)
		if got, ok := impl.RemoveDef(full, d.Name); ok != isFree || ok && (len(got) != maxDefs-1 || isDefined(got, d.Name)) || !ok && len(got) > 0 {
			t.Error("removed", d.Name, len(got), ok)
		}
	}
	if got, ok := impl.RemoveDef(full[:1], "twice"); !ok || len(got) != 0 {
		t.Error("removed the only definition", got, ok)
	}
	for _, d := range knotLibrary() {
		if _, ok := impl.RemoveDef(knotLibrary(), d.Name); ok != (d.Name == "l") {
			t.Error("removed from a knot", d.Name, ok)
		}
	}
}

// checkRenamed compares the renamed library with the one that the tests make, for a valid library.
func checkRenamed(t *testing.T, lib []impl.Def, name, to string) {
	want := renamedLibrary(lib, name, to)
	valid := isDefined(lib, name) && isLibrary(want)
	if !valid {
		want = nil
	}
	if got, ok := impl.RenameDef(lib, name, to); ok != valid || !sameLibrary(got, want) {
		t.Fatal("renamed", lib, name, to, got, ok)
	}
}

func TestRenamedDefinitions(t *testing.T) {
	cases := libraryCases()
	for i, c := range cases {
		if i > 0 && sameLibrary(c.lib, cases[i-1].lib) {
			continue
		}
		for _, name := range namesOf(c.lib) {
			for _, to := range append(namesOf(c.lib), "new", "a", "longname", "longnames", "swap", "codelay", "b 1", "9") {
				checkRenamed(t, c.lib, name, to)
			}
		}
	}
	full := fullLibrary()
	for _, d := range full {
		for _, to := range badNames() {
			if got, ok := impl.RenameDef(full, d.Name, to); ok || len(got) > 0 {
				t.Error("renamed", d.Name, to, ok)
			}
		}
		if got, ok := impl.RenameDef(full, d.Name, d.Name); !ok || !sameLibrary(got, full) {
			t.Error("renamed to the same name", d.Name, ok)
		}
	}
	got, ok := impl.RenameDef(full, "twice", "double")
	want := fullLibrary()
	want[0].Name = "double"
	want[2].Body = parOf(nameTerm("double"), nameTerm("double"))
	want[5].Body = seqOf(nameTerm("double"), seqOf(coscaleTerm(96), nameTerm("double")))
	if !ok || !sameLibrary(got, want) {
		t.Error("renamed twice", got, ok)
	}
}

// TestExpansionsInChangedLibraries checks that terms keep their expansions if definitions are added or removed that they do not use, or renamed.
func TestExpansionsInChangedLibraries(t *testing.T) {
	for _, c := range libraryCases() {
		want, wantOk := impl.Expand(c.lib, c.x)
		check := func(lib []impl.Def, x impl.Term) {
			if got, ok := impl.Expand(lib, x); ok != wantOk || !sameTerm(got, want) {
				t.Fatal("expansion in a changed library", c, lib, got, ok)
			}
		}
		if lib, ok := impl.AddDef(c.lib, impl.Def{Name: "new", In: 2, Out: 2, Body: leafTerm(impl.TmSwap)}); ok {
			check(lib, c.x)
		}
		for _, d := range c.lib {
			if lib, ok := impl.RemoveDef(c.lib, d.Name); ok && !occursIn(d.Name, c.x) {
				check(lib, c.x)
			}
			if lib, ok := impl.RenameDef(c.lib, d.Name, "new"); ok {
				check(lib, renamedTerm(c.x, d.Name, "new"))
			} else {
				t.Fatal("not renamed", c.lib, d.Name)
			}
		}
	}
}
