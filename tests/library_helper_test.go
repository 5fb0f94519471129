package tests

import (
	"math"
	"slices"
	"strings"

	"loop.example/g01073/impl"
)

// This file has names, libraries and rules to test with, and checks them without the program.

const maxDefs = 12

func nameTerm(name string) impl.Term { return termWith(impl.Node{Kind: impl.TmName, Name: name}) }

func isName(word string) bool {
	return namePattern.MatchString(word) && !slices.Contains(leafNames, word)
}

func isDefined(lib []impl.Def, name string) bool {
	return slices.ContainsFunc(lib, func(d impl.Def) bool { return d.Name == name })
}

// isNextDef reports whether a definition may follow those of a valid library, however many they are.
func isNextDef(lib []impl.Def, d impl.Def) bool {
	body, ok := treeIn(lib, d.Body)
	return ok && body.in == d.In && body.out == d.Out && isName(d.Name) && !isDefined(lib, d.Name)
}

// isLibrary follows the definition of a valid library.
func isLibrary(lib []impl.Def) bool {
	for i, d := range lib {
		if !isNextDef(lib[:i], d) {
			return false
		}
	}
	return len(lib) <= maxDefs
}

func sameDef(a, b impl.Def) bool {
	return a.Name == b.Name && a.In == b.In && a.Out == b.Out && sameTerm(a.Body, b.Body)
}

func sameLibrary(a, b []impl.Def) bool { return slices.EqualFunc(a, b, sameDef) }

// withDef returns the library with the definition of a name, of the type of its body, behind the others.
func withDef(lib []impl.Def, name string, body impl.Term) []impl.Def {
	whole, ok := treeIn(lib, body)
	if !ok {
		panic("the body of " + name + " is no term of the library")
	}
	return append(slices.Clone(lib), impl.Def{Name: name, In: whole.in, Out: whole.out, Body: body})
}

// fullLibrary returns a library with as many definitions as there may be, of names and types of all kinds.
func fullLibrary() []impl.Def {
	var lib []impl.Def
	lib = withDef(lib, "twice", seqOf(leafTerm(impl.TmCopy), leafTerm(impl.TmAdd)))
	lib = withDef(lib, "a", leafTerm(impl.TmZero))
	lib = withDef(lib, "longname", parOf(nameTerm("twice"), nameTerm("twice")))
	lib = withDef(lib, "empty", idTerm(0))
	lib = withDef(lib, "wide", parOf(idTerm(10), nameTerm("longname")))
	lib = withDef(lib, "id1", seqOf(nameTerm("twice"), seqOf(coscaleTerm(96), nameTerm("twice"))))
	lib = withDef(lib, "x0", seqOf(leafTerm(impl.TmCodiscard), nameTerm("id1"), leafTerm(impl.TmCozero)))
	lib = withDef(lib, "copies", leafTerm(impl.TmCopy))
	lib = withDef(lib, "swapped", parOf(seqOf(nameTerm("copies"), leafTerm(impl.TmSwap)), parOf(nameTerm("a"), nameTerm("empty"))))
	lib = withDef(lib, "scal", scaleTerm(4))
	lib = withDef(lib, "long", chainTerm(200, nameTerm("wide")))
	return withDef(lib, "z9", leafTerm(impl.TmDelay))
}

// libraries returns valid libraries, the empty one and the longest one among them.
func libraries() [][]impl.Def {
	full := fullLibrary()
	return [][]impl.Def{nil, {}, slices.Clone(full[:1]), slices.Clone(full[:3]), slices.Clone(full[:11]), full}
}

// invalidLibraries returns lists of definitions that are no library, each for another reason.
func invalidLibraries() [][]impl.Def {
	id, twice := idTerm(1), nameTerm("twice")
	full := fullLibrary()
	lists := [][]impl.Def{
		append(slices.Clone(full), impl.Def{Name: "more", In: 1, Out: 1, Body: id}),
		{full[0], full[0]}, {full[0], {Name: "twice", Body: idTerm(0)}}, {full[2]}, {full[2], full[0]},
		{{Name: "b", In: 1, Out: 1, Body: twice}}, {full[0], {Name: "b", In: 1, Out: 1, Body: nameTerm("b")}},
		{full[0], {Name: "b", In: 1, Out: 1, Body: termWith(impl.Node{Kind: impl.TmName, Name: "twice", Value: 1})}}, {full[0], {Name: "b", In: 1, Out: 1, Body: nameTerm("")}},
		{{Name: "b", In: 2, Out: 1, Body: id}}, {{Name: "b", In: 1, Out: 2, Body: id}}, {{Name: "b", In: -1, Out: 1, Body: id}}, {{Name: "b", In: math.MaxInt, Out: math.MaxInt, Body: id}}, {{Name: "b", In: math.MinInt, Out: 1, Body: id}}, {{Name: "b", In: 1, Out: 1<<32 + 1, Body: id}}, {{Name: "b", Body: id}}, {{Name: "b", In: 2, Out: 1, Body: leafTerm(impl.TmCopy)}}, {{}},
		slices.Repeat([]impl.Def{{Name: "b", In: 1, Out: 1, Body: id}}, 100000),
	}
	for _, name := range slices.Concat(leafNames[1:], []string{"", "longnames", "B", "bB", "9", "9b", "b b", " b", "b ", "b_", "b\n", "b;", "é", "b\x00", strings.Repeat("b", 100000)}) {
		lists = append(lists, []impl.Def{{Name: name, In: 1, Out: 1, Body: id}})
	}
	for _, body := range invalidTerms() {
		lists = append(lists, []impl.Def{{Name: "b", In: 1, Out: 1, Body: body}}, []impl.Def{{Name: "b", Body: body}})
	}
	return lists
}

// isRule follows the definition of a rule (chapter 13).
func isRule(r impl.Rule) bool {
	left, isLeft := treeOf(r.Left)
	right, isRight := treeOf(r.Right)
	return isName(r.Name) && isLeft && isRight && left.in == right.in && left.out == right.out && hasGraph(left) && hasGraph(right)
}

func sameRule(a, b impl.Rule) bool {
	return a.Name == b.Name && sameTerm(a.Left, b.Left) && sameTerm(a.Right, b.Right)
}
