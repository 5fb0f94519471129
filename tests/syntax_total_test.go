package tests

import (
	"slices"
	"strings"
	"testing"

	"loop.example/g01073/impl"
)

// This file checks P35 for the functions of chapter 6.

// syntaxArguments are the arguments of a function of chapter 6; each function takes some of them.
type syntaxArguments struct {
	lib  []impl.Def
	text string
	term impl.Term
	def  impl.Def
	rule impl.Rule
}

type syntaxResults struct {
	tokens   []impl.Token
	text     string
	term     impl.Term
	def      impl.Def
	rule     impl.Rule
	lib      []impl.Def
	at, code int
	ok       bool
}

// syntaxCall is a function of chapter 6; valid tells for which arguments it may succeed.
type syntaxCall struct {
	name                                             string
	takesLib, takesText, takesTerm, takesDef, takesR bool
	valid                                            func(v syntaxArguments) bool
	call                                             func(v syntaxArguments) syntaxResults
}

func hasLibrary(v syntaxArguments) bool { return isLibrary(v.lib) }

func hasTerm(v syntaxArguments) bool {
	_, ok := treeIn(v.lib, v.term)
	return ok && isLibrary(v.lib)
}

func hasShortText(v syntaxArguments) bool { return len(v.text) <= maxText }

func textResult(s string, ok bool) syntaxResults { return syntaxResults{text: s, ok: ok} }

func defResult(d impl.Def, ok bool) syntaxResults { return syntaxResults{def: d, ok: ok} }

func ruleResult(r impl.Rule, ok bool) syntaxResults { return syntaxResults{rule: r, ok: ok} }

func libResult(lib []impl.Def, ok bool) syntaxResults { return syntaxResults{lib: lib, ok: ok} }

func tokensResult(tokens []impl.Token, at, code int) syntaxResults {
	return syntaxResults{tokens: tokens, at: at, code: code, ok: code == impl.SxOk}
}

func parsedResult(x impl.Term, at, code int) syntaxResults {
	return syntaxResults{term: x, at: at, code: code, ok: len(x.Nodes) > 0}
}

func syntaxCalls() []syntaxCall {
	return []syntaxCall{
		{name: "Tokenize", takesText: true, valid: hasShortText,
			call: func(v syntaxArguments) syntaxResults { return tokensResult(impl.Tokenize(v.text)) }},
		{name: "ParseTerm", takesLib: true, takesText: true, valid: hasLibrary,
			call: func(v syntaxArguments) syntaxResults { return parsedResult(impl.ParseTerm(v.lib, v.text)) }},
		{name: "PrintTerm", takesLib: true, takesTerm: true, valid: hasTerm,
			call: func(v syntaxArguments) syntaxResults { return textResult(impl.PrintTerm(v.lib, v.term)) }},
		{name: "PrintFull", takesLib: true, takesTerm: true, valid: hasTerm,
			call: func(v syntaxArguments) syntaxResults { return textResult(impl.PrintFull(v.lib, v.term)) }},
		{name: "ParseRule", takesText: true, valid: hasShortText,
			call: func(v syntaxArguments) syntaxResults { return ruleResult(impl.ParseRule(v.text)) }},
		{name: "PrintRule", takesR: true, valid: func(v syntaxArguments) bool { return isRule(v.rule) },
			call: func(v syntaxArguments) syntaxResults { return textResult(impl.PrintRule(v.rule)) }},
		{name: "ParseDef", takesLib: true, takesText: true, valid: hasLibrary,
			call: func(v syntaxArguments) syntaxResults { return defResult(impl.ParseDef(v.lib, v.text)) }},
		{name: "PrintDef", takesLib: true, takesDef: true, valid: func(v syntaxArguments) bool { return isLibrary(append(slices.Clone(v.lib), v.def)) },
			call: func(v syntaxArguments) syntaxResults { return textResult(impl.PrintDef(v.lib, v.def)) }},
		{name: "ParseLibrary", takesText: true, valid: hasShortText,
			call: func(v syntaxArguments) syntaxResults { return libResult(impl.ParseLibrary(v.text)) }},
		{name: "PrintLibrary", takesLib: true, valid: hasLibrary,
			call: func(v syntaxArguments) syntaxResults { return textResult(impl.PrintLibrary(v.lib)) }},
	}
}

// oddTexts returns texts of all kinds, most of them invalid.
func oddTexts() []string {
	return []string{
		"", " ", "\n", "copy", "copy ; add", "twice", "twice ; (id 1 * a)", "none", "id 13", "id", "(", ")", "copy ; copy", "A", "\x00", "\xff\xfe", "é", "id 01", "id 9999999999999999999999999",
		"b = copy", "b = twice", "twice = copy", "b = ", "= b", "b : copy = copy", "a : copy ; swap = copy", "a : copy = add", "b = copy\n", "twice = copy ; add\nb = twice * twice\nc = b ; b\n", fullText(), chainText(200), chainText(201), "b = " + chainText(200) + "\n",
		strings.Repeat("(", maxText), strings.Repeat(")", maxText), strings.Repeat("copy;", maxText/5), strings.Repeat(" ", maxText+1), strings.Repeat("(", 1000000), strings.Repeat("\n", 1000000), strings.Repeat("é", 1000000),
	}
}

// eachArguments calls check with all arguments that f takes.
func (f syntaxCall) eachArguments(check func(v syntaxArguments)) {
	libs, texts, terms, defs, rules := [][]impl.Def{nil}, []string{""}, []impl.Term{{}}, []impl.Def{{}}, []impl.Rule{{}}
	if f.takesLib {
		libs = slices.Concat(libraries(), invalidLibraries())
	}
	if f.takesText {
		texts = oddTexts()
	}
	if f.takesTerm {
		terms = append(oddTerms(), nameTerm("twice"), seqOf(nameTerm("twice"), nameTerm("b")), parOf(nameTerm("wide"), nameTerm("a")), seqOf(nameTerm("twice"), parOf(nameTerm("a"), nameTerm("twice"))))
	}
	if f.takesDef {
		defs = oddDefs()
	}
	if f.takesR {
		rules = oddRules()
	}
	for _, lib := range libs {
		for _, text := range texts {
			for _, term := range terms {
				for _, def := range defs {
					for _, rule := range rules {
						check(syntaxArguments{lib, text, term, def, rule})
					}
				}
			}
		}
	}
}

// hasValue reports whether there is any result but an offset and a code.
func (r syntaxResults) hasValue() bool {
	return len(r.tokens) > 0 || r.text != "" || len(r.term.Nodes) > 0 || !sameDef(r.def, impl.Def{}) || !sameRule(r.rule, impl.Rule{}) || len(r.lib) > 0
}

func sameSyntaxResults(r, s syntaxResults) bool {
	return slices.Equal(r.tokens, s.tokens) && r.text == s.text && sameTerm(r.term, s.term) && sameDef(r.def, s.def) && sameRule(r.rule, s.rule) && sameLibrary(r.lib, s.lib) && r.at == s.at && r.code == s.code && r.ok == s.ok
}

func TestSyntaxFunctionsAreTotal(t *testing.T) {
	for _, f := range syntaxCalls() {
		f.eachArguments(func(v syntaxArguments) {
			r := f.call(v)
			if !r.ok && r.hasValue() || r.code == impl.SxOk && r.at != 0 {
				t.Fatal(f.name, "fails with a result", v, r)
			}
			valid := f.valid(v)
			if !valid && r.ok || !valid && f.takesLib && (r.at != 0 || r.code != 0) {
				t.Fatal(f.name, "succeeds for invalid arguments", v, r)
			}
			if !f.takesText && r.ok != valid {
				t.Fatal(f.name, "succeeds:", r.ok, v)
			}
		})
	}
}

func guardedDef(d impl.Def) impl.Def {
	d.Body = guardedTerm(d.Body)
	return d
}

func guardedRule(r impl.Rule) impl.Rule {
	r.Left, r.Right = guardedTerm(r.Left), guardedTerm(r.Right)
	return r
}

// guardDef stands in capacities behind libraries.
func guardDef() impl.Def { return impl.Def{Name: "guard", In: guard, Out: guard} }

// guardedLibrary returns a copy with guards in the capacities behind the definitions and behind the nodes of each one.
func guardedLibrary(lib []impl.Def) []impl.Def {
	var guarded []impl.Def
	for _, d := range lib {
		guarded = append(guarded, guardedDef(d))
	}
	return append(guarded, guardDef(), guardDef())[:len(lib)]
}

func isGuardedDef(d, want impl.Def) bool { return sameDef(d, want) && isGuardedTerm(d.Body, want.Body) }

func isGuardedLibrary(lib, want []impl.Def) bool {
	n := len(want)
	return slices.EqualFunc(lib, want, isGuardedDef) && sameLibrary(lib[n:n+2], []impl.Def{guardDef(), guardDef()})
}

func isGuardedRule(r, want impl.Rule) bool {
	return sameRule(r, want) && isGuardedTerm(r.Left, want.Left) && isGuardedTerm(r.Right, want.Right)
}

// terms returns all terms in the results.
func (r syntaxResults) terms() []impl.Term {
	terms := []impl.Term{r.term, r.def.Body, r.rule.Left, r.rule.Right}
	for _, d := range r.lib {
		terms = append(terms, d.Body)
	}
	return terms
}

// overwrite writes different nodes into all terms of the results, in the capacity of each, and reports whether they are still there at the end: not so if two terms share memory. The tokens and the definitions are cleared.
func (r syntaxResults) overwrite() bool {
	terms := r.terms()
	for i, x := range terms {
		nodes := x.Nodes[:cap(x.Nodes)]
		for j := range nodes {
			nodes[j] = impl.Node{Kind: 1000 + i, Name: "overwritten"}
		}
	}
	for i, x := range terms {
		if slices.ContainsFunc(x.Nodes[:cap(x.Nodes)], func(n impl.Node) bool { return n.Kind != 1000+i }) {
			return false
		}
	}
	clear(r.tokens[:cap(r.tokens)])
	clear(r.lib[:cap(r.lib)])
	return true
}

func TestSyntaxFunctionsShareNoMemory(t *testing.T) {
	for _, f := range syntaxCalls() {
		f.eachArguments(func(v syntaxArguments) {
			if max(len(v.lib), len(v.term.Nodes), len(v.def.Body.Nodes), len(v.rule.Left.Nodes), len(v.rule.Right.Nodes), len(v.text)-maxText) > 1000 {
				return
			}
			guarded := syntaxArguments{guardedLibrary(v.lib), v.text, guardedTerm(v.term), guardedDef(v.def), guardedRule(v.rule)}
			first := f.call(guarded)
			if !sameSyntaxResults(first, f.call(v)) {
				t.Fatal(f.name, "depends on a capacity or an earlier call", v)
			}
			if !first.overwrite() {
				t.Fatal(f.name, "has results that share memory", v)
			}
			if !isGuardedLibrary(guarded.lib, v.lib) || !isGuardedTerm(guarded.term, v.term) || !isGuardedDef(guarded.def, v.def) || !isGuardedRule(guarded.rule, v.rule) {
				t.Fatal(f.name, "changes its arguments or hands them out", v, guarded)
			}
			if !sameSyntaxResults(f.call(guarded), f.call(v)) {
				t.Fatal(f.name, "depends on earlier results", v)
			}
		})
	}
}
