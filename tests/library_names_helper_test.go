package tests

import (
	"math/big"
	"math/rand/v2"
	"slices"

	"loop.example/g01073/impl"
)

// This file expands, inlines and folds names without the program, each time by the words of the document, and makes libraries and terms of them to test with.

const maxExpanded = 1000000

// defOf returns the definition of a name, which must be defined.
func defOf(lib []impl.Def, name string) impl.Def {
	return lib[slices.IndexFunc(lib, func(d impl.Def) bool { return d.Name == name })]
}

func isNameNode(n impl.Node) bool { return n.Kind == impl.TmName }

// expanded replaces one name after the other until none is left.
func expanded(lib []impl.Def, x impl.Term) impl.Term {
	nodes := slices.Clone(x.Nodes)
	for i := slices.IndexFunc(nodes, isNameNode); i >= 0; i = slices.IndexFunc(nodes, isNameNode) {
		nodes = slices.Replace(nodes, i, i+1, defOf(lib, nodes[i].Name).Body.Nodes...)
	}
	return impl.Term{Nodes: nodes}
}

// countLeaves returns the number of leaves of an expanded term, for those of the names.
func countLeaves(ofNames map[string]*big.Int, x impl.Term) *big.Int {
	count := big.NewInt(0)
	for _, n := range x.Nodes {
		if isNameNode(n) {
			count.Add(count, ofNames[n.Name])
		} else if !isJoint(n.Kind) {
			count.Add(count, big.NewInt(1))
		}
	}
	return count
}

// expandedSize returns the number of nodes of an expanded term: it has one joint less than leaves.
func expandedSize(lib []impl.Def, x impl.Term) *big.Int {
	ofNames := map[string]*big.Int{}
	for _, d := range lib {
		ofNames[d.Name] = countLeaves(ofNames, d.Body)
	}
	leaves := countLeaves(ofNames, x)
	return leaves.Sub(leaves.Add(leaves, leaves), big.NewInt(1))
}

func isAtMost(size *big.Int, most int64) bool { return size.Cmp(big.NewInt(most)) <= 0 }

// inlined returns a term of the library with the Body of a definition in place of its name.
func inlined(lib []impl.Def, x impl.Term, d impl.Def) impl.Term {
	return withParts(lib, x, func(part tree) (impl.Term, bool) { return d.Body, part.node.Name == d.Name })
}

// folded returns a term of the library with the name of a definition in place of its Body.
func folded(lib []impl.Def, x impl.Term, d impl.Def) impl.Term {
	return withParts(lib, x, func(part tree) (impl.Term, bool) {
		return nameTerm(d.Name), slices.Equal(x.Nodes[part.first:part.last+1], d.Body.Nodes)
	})
}

// withParts returns a term of the library with another term in place of each part for which there is one.
func withParts(lib []impl.Def, x impl.Term, change func(part tree) (impl.Term, bool)) impl.Term {
	var nodes []impl.Node
	var add func(part tree)
	add = func(part tree) {
		if other, ok := change(part); ok {
			nodes = append(nodes, other.Nodes...)
			return
		}
		for _, smaller := range part.parts {
			add(smaller)
		}
		nodes = append(nodes, part.node)
	}
	whole, _ := treeIn(lib, x)
	add(whole)
	return impl.Term{Nodes: nodes}
}

// occursIn reports whether a name is the Name of a node of x.
func occursIn(name string, x impl.Term) bool {
	return slices.ContainsFunc(x.Nodes, func(n impl.Node) bool { return n.Name == name })
}

// usedNames adds the names in the Bodies of names that are used until there are no more of them.
func usedNames(lib []impl.Def, x impl.Term) []string {
	isUsed := map[string]bool{}
	bodies := []impl.Term{x}
	for len(bodies) > 0 {
		body := bodies[0]
		bodies = bodies[1:]
		for _, d := range lib {
			if occursIn(d.Name, body) && !isUsed[d.Name] {
				isUsed[d.Name] = true
				bodies = append(bodies, d.Body)
			}
		}
	}
	var names []string
	for _, d := range lib {
		if isUsed[d.Name] {
			names = append(names, d.Name)
		}
	}
	return names
}

// nameDepth returns 1 more than the greatest depth of the names in the Body of a name.
func nameDepth(lib []impl.Def, name string) int {
	depth := 1
	for _, used := range lib {
		if used.Name != name && occursIn(used.Name, defOf(lib, name).Body) {
			depth = max(depth, 1+nameDepth(lib, used.Name))
		}
	}
	return depth
}

// renamedTerm returns a term with one name in place of another.
func renamedTerm(x impl.Term, name, to string) impl.Term {
	var nodes []impl.Node
	for _, n := range x.Nodes {
		if n == (impl.Node{Kind: impl.TmName, Name: name}) {
			n.Name = to
		}
		nodes = append(nodes, n)
	}
	return impl.Term{Nodes: nodes}
}

// renamedLibrary returns the definitions with one name in place of another, whether they are a library or not.
func renamedLibrary(lib []impl.Def, name, to string) []impl.Def {
	var renamed []impl.Def
	for _, d := range lib {
		d.Body = renamedTerm(d.Body, name, to)
		if d.Name == name {
			d.Name = to
		}
		renamed = append(renamed, d)
	}
	return renamed
}

// namesOf returns the names of a library and words that are no names of it.
func namesOf(lib []impl.Def) []string {
	names := []string{"", "none", "id", "copy", "twic", "twicee", "Twice"}
	for _, d := range lib {
		names = append(names, d.Name)
	}
	return names
}

// withNames returns a valid term in which names of the library are in place of some parts of their types.
func withNames(source *rand.Rand, lib []impl.Def, x tree) impl.Term {
	var names []string
	for _, d := range lib {
		if d.In == x.in && d.Out == x.out {
			names = append(names, d.Name)
		}
	}
	if len(names) > 0 && source.IntN(3) == 0 {
		return nameTerm(names[source.IntN(len(names))])
	}
	if len(x.parts) == 2 {
		return joinedTerms(x.node.Kind, withNames(source, lib, x.parts[0]), withNames(source, lib, x.parts[1]))
	}
	return x.term()
}

// randomTermIn returns a term of the library in which at most depth joints contain each other.
func randomTermIn(source *rand.Rand, lib []impl.Def, depth int) impl.Term {
	return withNames(source, lib, validTree(randomTerm(source, 5, source.IntN(4), depth)))
}

// randomLibrary returns a library of n definitions.
func randomLibrary(source *rand.Rand, n int) []impl.Def {
	names := []string{"a", "b", "ab", "b0", "name", "longname", "z", "z9", "idd", "seq", "par", "copyadd"}
	source.Shuffle(len(names), func(i, j int) { names[i], names[j] = names[j], names[i] })
	var lib []impl.Def
	for _, name := range names[:n] {
		lib = withDef(lib, name, randomTermIn(source, lib, source.IntN(4)))
	}
	return lib
}

// chainLibrary returns a library in which each definition is the composition of copies of the one before it; the first one is that of copies of a multiplication.
func chainLibrary(copies ...int) []impl.Def {
	var lib []impl.Def
	link := scaleTerm(2)
	for i, n := range copies {
		name := "chain" + string(rune('a'+i))
		lib = withDef(lib, name, chainTerm(n, link))
		link = nameTerm(name)
	}
	return lib
}

// lastName returns the term that is the name of the last definition.
func lastName(lib []impl.Def) impl.Term { return nameTerm(lib[len(lib)-1].Name) }

// greatLibraries returns libraries whose expansions are too long to be made.
func greatLibraries() [][]impl.Def {
	return [][]impl.Def{
		chainLibrary(slices.Repeat([]int{200}, maxDefs)...), chainLibrary(slices.Repeat([]int{128}, 10)...), chainLibrary(slices.Repeat([]int{64}, 11)...), chainLibrary(slices.Repeat([]int{2}, maxDefs)...),
	}
}

type libraryCase struct {
	lib []impl.Def
	x   impl.Term
}

// libraryCases returns terms of libraries of all sizes, those of one library behind each other.
func libraryCases() []libraryCase {
	var cases []libraryCase
	source := rand.New(rand.NewPCG(7, 35))
	for round := range 100 {
		lib := randomLibrary(source, round%(maxDefs+1))
		for depth := 2; depth < 6; depth++ {
			cases = append(cases, libraryCase{lib, randomTermIn(source, lib, depth)})
		}
	}
	for _, lib := range libraries() {
		cases = append(cases, libraryCase{lib, randomTermIn(source, lib, 4)})
		for _, d := range lib {
			cases = append(cases, libraryCase{lib, d.Body}, libraryCase{lib, seqOf(idTerm(d.In), nameTerm(d.Name), idTerm(d.Out))})
		}
	}
	return cases
}
