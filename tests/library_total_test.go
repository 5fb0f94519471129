package tests

import (
	"math"
	"slices"
	"strings"
	"testing"

	"loop.example/g01073/impl"
)

// This file checks P35 for the functions of chapter 7.

// libraryArguments are the arguments of a function of chapter 7; each function takes some of them.
type libraryArguments struct {
	lib      []impl.Def
	term     impl.Term
	def      impl.Def
	name, to string
}

type libraryResults struct {
	lib     []impl.Def
	term    impl.Term
	names   []string
	numbers [2]int
	ok      bool
}

// libraryCall is a function of chapter 7; succeeds tells for which arguments it is to succeed.
type libraryCall struct {
	name                                    string
	takesTerm, takesDef, takesName, takesTo bool
	succeeds                                func(v libraryArguments) bool
	call                                    func(v libraryArguments) libraryResults
}

func changedLibrary(lib []impl.Def, ok bool) libraryResults {
	return libraryResults{lib: lib, ok: ok}
}

func namedTerm(x impl.Term, ok bool) libraryResults { return libraryResults{term: x, ok: ok} }

func numbersOfLibrary(a, b int, ok bool) libraryResults {
	return libraryResults{numbers: [2]int{a, b}, ok: ok}
}

func isTermOfLibrary(v libraryArguments) bool {
	_, ok := treeIn(v.lib, v.term)
	return ok && isLibrary(v.lib)
}

func hasName(v libraryArguments) bool { return isLibrary(v.lib) && isDefined(v.lib, v.name) }

func hasSize(most int64) func(v libraryArguments) bool {
	return func(v libraryArguments) bool {
		return isTermOfLibrary(v) && isAtMost(expandedSize(v.lib, v.term), most)
	}
}

func canInline(v libraryArguments) bool {
	if !hasName(v) || !isTermOfLibrary(v) {
		return false
	}
	return len(inlined(v.lib, v.term, defOf(v.lib, v.name)).Nodes) <= maxNodes
}

func canRemove(v libraryArguments) bool {
	return hasName(v) && !slices.ContainsFunc(v.lib, func(d impl.Def) bool { return occursIn(v.name, d.Body) })
}

func libraryCalls() []libraryCall {
	return []libraryCall{
		{name: "IsLibrary", succeeds: func(v libraryArguments) bool { return isLibrary(v.lib) },
			call: func(v libraryArguments) libraryResults { return libraryResults{ok: impl.IsLibrary(v.lib)} }},
		{name: "TypeIn", takesTerm: true, succeeds: isTermOfLibrary,
			call: func(v libraryArguments) libraryResults { return numbersOfLibrary(impl.TypeIn(v.lib, v.term)) }},
		{name: "Expand", takesTerm: true, succeeds: hasSize(maxNodes),
			call: func(v libraryArguments) libraryResults { return namedTerm(impl.Expand(v.lib, v.term)) }},
		{name: "ExpandedSize", takesTerm: true, succeeds: hasSize(maxExpanded),
			call: func(v libraryArguments) libraryResults {
				size, ok := impl.ExpandedSize(v.lib, v.term)
				return numbersOfLibrary(size, 0, ok)
			}},
		{name: "InlineName", takesTerm: true, takesName: true, succeeds: canInline,
			call: func(v libraryArguments) libraryResults { return namedTerm(impl.InlineName(v.lib, v.term, v.name)) }},
		{name: "FoldName", takesTerm: true, takesName: true, succeeds: func(v libraryArguments) bool { return hasName(v) && isTermOfLibrary(v) },
			call: func(v libraryArguments) libraryResults { return namedTerm(impl.FoldName(v.lib, v.term, v.name)) }},
		{name: "UsedNames", takesTerm: true, succeeds: isTermOfLibrary,
			call: func(v libraryArguments) libraryResults {
				names, ok := impl.UsedNames(v.lib, v.term)
				return libraryResults{names: names, ok: ok}
			}},
		{name: "AddDef", takesDef: true, succeeds: func(v libraryArguments) bool { return isLibrary(append(slices.Clone(v.lib), v.def)) },
			call: func(v libraryArguments) libraryResults { return changedLibrary(impl.AddDef(v.lib, v.def)) }},
		{name: "RemoveDef", takesName: true, succeeds: canRemove,
			call: func(v libraryArguments) libraryResults { return changedLibrary(impl.RemoveDef(v.lib, v.name)) }},
		{name: "RenameDef", takesName: true, takesTo: true, succeeds: func(v libraryArguments) bool { return hasName(v) && isLibrary(renamedLibrary(v.lib, v.name, v.to)) },
			call: func(v libraryArguments) libraryResults { return changedLibrary(impl.RenameDef(v.lib, v.name, v.to)) }},
		{name: "NameDepth", takesName: true, succeeds: hasName,
			call: func(v libraryArguments) libraryResults {
				depth, ok := impl.NameDepth(v.lib, v.name)
				return numbersOfLibrary(depth, 0, ok)
			}},
	}
}

// sharedLibrary returns a library whose Bodies share memory.
func sharedLibrary() []impl.Def {
	nodes := seqOf(leafTerm(impl.TmSwap), leafTerm(impl.TmSwap), leafTerm(impl.TmSwap)).Nodes
	part, whole := impl.Term{Nodes: nodes[:3]}, impl.Term{Nodes: nodes}
	return []impl.Def{{Name: "a", In: 2, Out: 2, Body: part}, {Name: "b", In: 2, Out: 2, Body: whole}, {Name: "twice", In: 2, Out: 2, Body: part}}
}

// oddNames returns names of fullLibrary and of other libraries, and words that are none.
func oddNames() []string {
	return []string{"", "twice", "a", "b", "long", "z9", "chaina", "chainl", "none", "copy", "id", "coscale", "longname", "longnames", "A", "é", "\x00", "a\n", strings.Repeat("a", 1000000)}
}

// eachArguments calls check with all arguments that f takes, for each of these libraries.
func (f libraryCall) eachArguments(libs [][]impl.Def, check func(v libraryArguments)) {
	terms, defs, names, others := []impl.Term{{}}, []impl.Def{{}}, []string{""}, []string{""}
	if f.takesTerm {
		terms = slices.Concat(oddTerms(), []impl.Term{nameTerm("twice"), seqOf(nameTerm("twice"), nameTerm("b")), parOf(nameTerm("wide"), nameTerm("a")), seqOf(nameTerm("twice"), parOf(nameTerm("a"), nameTerm("twice"))), nameTerm("chaina"), nameTerm("chainl"), chainTerm(200, nameTerm("chainj")), chainTerm(200, nameTerm("long")), nameTerm(strings.Repeat("a", 1000000)), parOf(nameTerm("b"), nameTerm("b")), termWith(impl.Node{Kind: impl.TmName, Name: "a", Value: math.MaxInt}), termWith(impl.Node{Kind: math.MinInt, Name: "a", Value: math.MinInt})})
	}
	if f.takesDef {
		defs = append(oddDefs(), impl.Def{Name: "c", In: 2, Out: 2, Body: sharedLibrary()[0].Body})
	}
	if f.takesName {
		names = oddNames()
	}
	if f.takesTo {
		others = oddNames()
	}
	for _, lib := range libs {
		for _, term := range terms {
			for _, def := range defs {
				for _, name := range names {
					for _, to := range others {
						check(libraryArguments{lib, term, def, name, to})
					}
				}
			}
		}
	}
}

func (r libraryResults) isZero() bool {
	return len(r.lib) == 0 && len(r.term.Nodes) == 0 && len(r.names) == 0 && r.numbers == [2]int{} && !r.ok
}

func sameLibraryResults(r, s libraryResults) bool {
	return sameLibrary(r.lib, s.lib) && sameTerm(r.term, s.term) && slices.Equal(r.names, s.names) && r.numbers == s.numbers && r.ok == s.ok
}

func TestLibraryFunctionsAreTotal(t *testing.T) {
	libs := slices.Concat(libraries(), invalidLibraries(), greatLibraries(), [][]impl.Def{sharedLibrary()})
	for _, f := range libraryCalls() {
		f.eachArguments(libs, func(v libraryArguments) {
			r := f.call(v)
			if !r.ok && !r.isZero() {
				t.Fatal(f.name, "fails with a result", v, r)
			}
			if r.ok != f.succeeds(v) {
				t.Fatal(f.name, "succeeds:", r.ok, v)
			}
		})
	}
}

// overwrite writes into the results, also in the capacities behind them, and reports whether no two terms of them share memory.
func (r libraryResults) overwrite() bool {
	names := r.names[:cap(r.names)]
	for i := range names {
		names[i] = "overwritten"
	}
	return syntaxResults{lib: r.lib, term: r.term}.overwrite()
}

// checkLibraryMemory checks that a function modifies no argument, hands none out and keeps none.
func checkLibraryMemory(t *testing.T, f libraryCall, v libraryArguments) {
	guarded := libraryArguments{guardedLibrary(v.lib), guardedTerm(v.term), guardedDef(v.def), v.name, v.to}
	first := f.call(guarded)
	if !sameLibraryResults(first, f.call(v)) {
		t.Fatal(f.name, "depends on a capacity or an earlier call", v)
	}
	if !first.overwrite() {
		t.Fatal(f.name, "has results that share memory", v)
	}
	if !isGuardedLibrary(guarded.lib, v.lib) || !isGuardedTerm(guarded.term, v.term) || !isGuardedDef(guarded.def, v.def) {
		t.Fatal(f.name, "changes its arguments or hands them out", v, guarded)
	}
	if !sameLibraryResults(f.call(guarded), f.call(v)) {
		t.Fatal(f.name, "depends on earlier results", v)
	}
}

func TestLibraryFunctionsShareNoMemory(t *testing.T) {
	full := fullLibrary()
	libs := [][]impl.Def{nil, full[:3], full, sharedLibrary(), chainLibrary(10, 10, 10), {full[2], full[0]}, append(slices.Clone(full), full[0])}
	for _, f := range libraryCalls() {
		f.eachArguments(libs, func(v libraryArguments) {
			if max(len(v.term.Nodes), len(v.def.Body.Nodes), len(v.name), len(v.to)) <= 1000 {
				checkLibraryMemory(t, f, v)
			}
		})
	}
	for i, c := range libraryCases() {
		if i%5 > 0 {
			continue
		}
		for _, f := range libraryCalls() {
			x, _ := treeIn(c.lib, c.x)
			for _, name := range namesOf(c.lib) {
				checkLibraryMemory(t, f, libraryArguments{c.lib, c.x, impl.Def{Name: "new", In: x.in, Out: x.out, Body: c.x}, name, "new"})
			}
		}
	}
}

// TestLibraryArgumentsMayShareMemory gives libraries, definitions and terms that are parts of each other.
func TestLibraryArgumentsMayShareMemory(t *testing.T) {
	lib := sharedLibrary()
	body := lib[1].Body
	before := slices.Clone(body.Nodes)
	results := []libraryResults{
		changedLibrary(impl.AddDef(lib[:2], lib[2])), changedLibrary(impl.AddDef(lib[:0], lib[0])), changedLibrary(impl.RemoveDef(lib, "a")), changedLibrary(impl.RenameDef(lib, "a", "c")), changedLibrary(impl.RenameDef(lib, "a", "a")),
		namedTerm(impl.Expand(lib, body)), namedTerm(impl.Expand(nil, body)), namedTerm(impl.InlineName(lib, body, "a")), namedTerm(impl.FoldName(lib, lib[0].Body, "b")), namedTerm(impl.InlineName(lib, nameTerm("a"), "a")), namedTerm(impl.Expand(lib, nameTerm("b"))),
	}
	for i, r := range results {
		if !r.ok || !r.overwrite() {
			t.Error("results share memory", i, r)
		}
	}
	if !slices.Equal(body.Nodes, before) || !sameLibrary(lib, sharedLibrary()) {
		t.Error("the arguments are modified", lib)
	}
}
