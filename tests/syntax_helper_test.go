package tests

import (
	"math/rand/v2"
	"regexp"
	"slices"
	"sort"
	"strconv"
	"strings"

	"loop.example/g01073/impl"
)

// This file reads and prints texts of terms without the program.

const maxText = 40000

// leafNames has the words of the leaves at the indices of their kinds.
var leafNames = strings.Fields("- id swap copy discard add zero scale delay cocopy codiscard coadd cozero coscale codelay")

// jointSymbols has the symbols of the joints, that of TmSeq first.
var jointSymbols = []string{";", "*"}

var (
	tokenPattern  = regexp.MustCompile(`^(?:([a-z][a-z0-9]*)|([0-9]+)|([;*()=:]))`)
	numberPattern = regexp.MustCompile(`^(?:0|[1-9][0-9]{0,5})$`)
	namePattern   = regexp.MustCompile(`^[a-z][a-z0-9]{0,7}$`)
)

func isNumbered(kind int) bool {
	return kind == impl.TmId || kind == impl.TmScale || kind == impl.TmCoscale
}

func symbolOf(kind int) string { return jointSymbols[kind-impl.TmSeq] }

// kindOf returns the kind of the leaf for a word.
func kindOf(word string) int {
	if kind := slices.Index(leafNames, word); kind > 0 {
		return kind
	}
	return impl.TmName
}

// readTokens follows the definition of Tokenize.
func readTokens(s string) ([]impl.Token, int, int) {
	if len(s) > maxText {
		return nil, 0, impl.SxLong
	}
	var tokens []impl.Token
	for at := 0; at < len(s); {
		if s[at] == ' ' || s[at] == '\n' {
			at++
			continue
		}
		match := tokenPattern.FindStringSubmatch(s[at:])
		if match == nil {
			return nil, at, impl.SxByte
		}
		if match[2] != "" && !numberPattern.MatchString(match[2]) {
			return nil, at, impl.SxNumber
		}
		kind := 1 + slices.IndexFunc(match[1:], func(group string) bool { return group != "" })
		tokens = append(tokens, impl.Token{Kind: kind, Text: match[0], At: at})
		at += len(match[0])
	}
	return tokens, 0, impl.SxOk
}

// sketchOf returns a byte for each token: w for a part, k for a word before a number, n for a number.
func sketchOf(tokens []impl.Token) string {
	sketch := ""
	for _, token := range tokens {
		switch {
		case token.Kind == impl.TkNumber:
			sketch += "n"
		case token.Kind == impl.TkSymbol:
			sketch += token.Text
		case isNumbered(kindOf(token.Text)):
			sketch += "k"
		default:
			sketch += "w"
		}
	}
	return sketch
}

// isTermSketch reports whether the grammar allows the tokens of a sketch: it puts w for all that is known to be a part until nothing else is left.
func isTermSketch(sketch string) bool {
	sketch = strings.ReplaceAll(strings.ReplaceAll(sketch, "kn", "w"), ";", "*")
	for before := ""; before != sketch; {
		before = sketch
		sketch = strings.ReplaceAll(strings.ReplaceAll(sketch, "w*w", "w"), "(w)", "w")
	}
	return sketch == "w"
}

// isBeginning reports whether tokens can be put behind those of a sketch so that the grammar allows them.
func isBeginning(sketch string) bool {
	missing := strings.Count(sketch, "(") - strings.Count(sketch, ")")
	if missing < 0 {
		return false
	}
	isAllowed := func(next string) bool { return isTermSketch(sketch + next + strings.Repeat(")", missing)) }
	return isAllowed("") || isAllowed("n") || isAllowed("w")
}

// syntaxFault returns the offset of the first token that cannot stand where it stands, or the length of the text, and whether there is a fault.
func syntaxFault(s string, tokens []impl.Token) (int, bool) {
	sketch := sketchOf(tokens)
	if isTermSketch(sketch) {
		return 0, false
	}
	n := sort.Search(len(tokens), func(i int) bool { return !isBeginning(sketch[:i+1]) })
	if n == len(tokens) {
		return len(s), true
	}
	return tokens[n].At, true
}

// placedTree is a part of a term, valid or not, with the offset of the token that stands for its last node.
type placedTree struct {
	node  impl.Node
	at    int
	parts []placedTree
}

// lastOutside returns the index of the last token with this text that is not in parentheses, or -1.
func lastOutside(tokens []impl.Token, symbol string) int {
	closed := 0
	for i, token := range slices.Backward(tokens) {
		switch token.Text {
		case ")":
			closed++
		case "(":
			closed--
		case symbol:
			if closed == 0 {
				return i
			}
		}
	}
	return -1
}

// lastJoint returns the index of the token of the last node of tokens that the grammar allows, and the kind of that node, or -1 if it is a leaf or in parentheses.
func lastJoint(tokens []impl.Token) (int, int) {
	for kind, symbol := range jointSymbols {
		if i := lastOutside(tokens, symbol); i >= 0 {
			return i, impl.TmSeq + kind
		}
	}
	return -1, 0
}

// placedTreeOf reads tokens that the grammar allows, from the end.
func placedTreeOf(tokens []impl.Token) placedTree {
	if i, kind := lastJoint(tokens); i >= 0 {
		parts := []placedTree{placedTreeOf(tokens[:i]), placedTreeOf(tokens[i+1:])}
		return placedTree{impl.Node{Kind: kind}, tokens[i].At, parts}
	}
	if tokens[0].Text == "(" {
		return placedTreeOf(tokens[1 : len(tokens)-1])
	}
	n := impl.Node{Kind: kindOf(tokens[0].Text)}
	if n.Kind == impl.TmName {
		n.Name = tokens[0].Text
	}
	if isNumbered(n.Kind) {
		n.Value, _ = strconv.Atoi(tokens[1].Text)
	}
	return placedTree{node: n, at: tokens[0].At}
}

// reading collects the nodes of a text in their order, up to the first fault.
type reading struct {
	lib      []impl.Def
	nodes    []impl.Node
	at, code int
}

// add adds the nodes of a tree, and returns its numbers of inputs and outputs.
func (r *reading) add(x placedTree) [2]int {
	var types [][2]int
	for _, part := range x.parts {
		types = append(types, r.add(part))
	}
	if r.code != impl.SxOk {
		return [2]int{}
	}
	if len(r.nodes) == maxNodes {
		r.at, r.code = x.at, impl.SxLong
		return [2]int{}
	}
	r.nodes = append(r.nodes, x.node)
	if len(types) == 0 {
		return r.leafType(x)
	}
	a, b := types[0], types[1]
	joined, fits := [2]int{a[0], b[1]}, a[1] == b[0]
	if x.node.Kind == impl.TmPar {
		joined = [2]int{a[0] + b[0], a[1] + b[1]}
		fits = max(joined[0], joined[1]) <= maxWires
	}
	if !fits {
		r.at, r.code = x.at, impl.SxType
	}
	return joined
}

// leafType returns the type of the leaf that is the last node.
func (r *reading) leafType(x placedTree) [2]int {
	leaf, ok := leafTree(r.lib, r.nodes, len(r.nodes)-1)
	if !ok {
		r.at, r.code = x.at, impl.SxValue
		if x.node.Kind == impl.TmName {
			r.code = impl.SxName
		}
	}
	return [2]int{leaf.in, leaf.out}
}

// readText follows the definition of ParseTerm for a valid library.
func readText(lib []impl.Def, s string) (impl.Term, int, int) {
	tokens, at, code := readTokens(s)
	if code != impl.SxOk {
		return impl.Term{}, at, code
	}
	if at, isFault := syntaxFault(s, tokens); isFault {
		return impl.Term{}, at, impl.SxSyntax
	}
	r := reading{lib: lib}
	r.add(placedTreeOf(tokens))
	if r.code != impl.SxOk {
		return impl.Term{}, r.at, r.code
	}
	return impl.Term{Nodes: r.nodes}, 0, impl.SxOk
}

// printed follows the definitions of PrintTerm and PrintFull.
func printed(x tree, isFull bool) string {
	if len(x.parts) == 0 {
		return printedLeaf(x.node)
	}
	a, b := x.parts[0], x.parts[1]
	aNeeds, bNeeds := false, b.node.Kind == impl.TmSeq
	if x.node.Kind == impl.TmPar {
		aNeeds, bNeeds = a.node.Kind == impl.TmSeq, isJoint(b.node.Kind)
	}
	return enclosed(a, isFull, aNeeds) + " " + symbolOf(x.node.Kind) + " " + enclosed(b, isFull, bNeeds)
}

// enclosed returns the text of a part, in parentheses if it needs them.
func enclosed(x tree, isFull, needs bool) string {
	if needs || isFull && isJoint(x.node.Kind) {
		return "(" + printed(x, isFull) + ")"
	}
	return printed(x, isFull)
}

func printedLeaf(n impl.Node) string {
	if n.Kind == impl.TmName {
		return n.Name
	}
	if isNumbered(n.Kind) {
		return leafNames[n.Kind] + " " + strconv.Itoa(n.Value)
	}
	return leafNames[n.Kind]
}

// randomText returns the text of a term with any blanks, and some needless parentheses.
func randomText(source *rand.Rand, x tree) string {
	space := func() string {
		return strings.Repeat(" ", source.IntN(2)) + strings.Repeat("\n", source.IntN(8)/7) + strings.Repeat(" ", source.IntN(3)/2)
	}
	var text func(x tree) string
	text = func(x tree) string {
		if len(x.parts) == 2 {
			return "(" + text(x.parts[0]) + ")" + space() + symbolOf(x.node.Kind) + space() + "(" + text(x.parts[1]) + ")"
		}
		s := printedLeaf(x.node)
		if source.IntN(6) == 0 {
			s = "(" + s + ")"
		}
		return space() + s + space()
	}
	return text(x)
}
