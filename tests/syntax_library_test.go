package tests

import (
	"slices"
	"strings"
	"testing"

	"loop.example/g01073/impl"
)

// This file tests the texts of rules, definitions and libraries (P6).

// readDef follows the definition of ParseDef for a valid library.
func readDef(lib []impl.Def, s string) (impl.Def, bool) {
	head, text, isCut := strings.Cut(s, "=")
	tokens, _, code := readTokens(head)
	x, _, fault := readText(lib, text)
	if len(s) > maxText || !isCut || code != impl.SxOk || len(tokens) != 1 || fault != impl.SxOk {
		return impl.Def{}, false
	}
	whole, _ := treeIn(lib, x)
	d := impl.Def{Name: tokens[0].Text, In: whole.in, Out: whole.out, Body: x}
	if !isNextDef(lib, d) {
		return impl.Def{}, false
	}
	return d, true
}

// readRule follows the definition of ParseRule.
func readRule(s string) (impl.Rule, bool) {
	head, terms, isNamed := strings.Cut(s, ":")
	left, right, isCut := strings.Cut(terms, "=")
	tokens, _, code := readTokens(head)
	a, _, aFault := readText(nil, left)
	b, _, bFault := readText(nil, right)
	if len(s) > maxText || !isNamed || !isCut || code != impl.SxOk || len(tokens) != 1 || aFault != impl.SxOk || bFault != impl.SxOk {
		return impl.Rule{}, false
	}
	r := impl.Rule{Name: tokens[0].Text, Left: a, Right: b}
	if !isRule(r) {
		return impl.Rule{}, false
	}
	return r, true
}

// readLibrary follows the definition of ParseLibrary.
func readLibrary(s string) ([]impl.Def, bool) {
	if s == "" {
		return nil, true
	}
	lines := strings.Split(s, "\n")
	last := len(lines) - 1
	if lines[last] != "" || len(s) > maxText {
		return nil, false
	}
	var lib []impl.Def
	for _, line := range lines[:last] {
		d, ok := readDef(lib, line)
		if !ok {
			return nil, false
		}
		lib = append(lib, d)
	}
	if len(lib) > maxDefs {
		return nil, false
	}
	return lib, true
}

func checkDef(t *testing.T, lib []impl.Def, s string) bool {
	d, ok := impl.ParseDef(lib, s)
	if want, isDef := readDef(lib, s); ok != isDef || !sameDef(d, want) {
		t.Fatalf("definition of %.1000q: %v %v, not %v %v", s, d, ok, want, isDef)
	}
	return ok
}

func checkRule(t *testing.T, s string) bool {
	r, ok := impl.ParseRule(s)
	if want, isRule := readRule(s); ok != isRule || !sameRule(r, want) {
		t.Fatalf("rule of %.1000q: %v %v, not %v %v", s, r, ok, want, isRule)
	}
	return ok
}

func checkLibrary(t *testing.T, s string) bool {
	lib, ok := impl.ParseLibrary(s)
	if want, isLibrary := readLibrary(s); ok != isLibrary || !sameLibrary(lib, want) {
		t.Fatalf("library of %.1000q: %v %v, not %v %v", s, lib, ok, want, isLibrary)
	}
	return ok
}

// badNames are words and other texts that are no names.
func badNames() []string {
	return slices.Concat(leafNames[1:], []string{"", "longnames", "a b", "B", "9", "9b", "b_", "1", "(b)", "b ;", "b *", "= b", ": b", "b :", "b 1", "1 b", "é"})
}

func TestDefinitionsOfTexts(t *testing.T) {
	full := fullLibrary()
	for _, s := range []string{"twice = copy ; add", "b = id 0", "longname=id 1;id 1", "  b\n=\ncopy ;\nadd ", "b = (copy)", "copy0 = copy", "id12 = id 12", "b = scale 96", "name = zero", "seq = delay", "b = add*add"} {
		if !checkDef(t, nil, s) {
			t.Error("no definition of", s)
		}
	}
	for _, s := range []string{
		"", " ", "b", "b =", "= copy", "=", "b copy", "b = = copy", "b = copy = copy", "b = copy =", "b : copy", "b = copy :", "b : copy = copy", "b = copy ;", "b = )", "b = (copy", "b = copy ; copy", "b = id 13", "b = scale 97", "b = none", "b = b", "b = b1", "b=a;a", "b = id", "b = A", "b = 01", "b = 1", "b c = copy", "b (c) = copy", "(b) = copy", "b ; b = copy", "1 = copy", "B = copy",
		"b = " + chainText(201), "b = id 12 * zero", "b = id 1234567", "b = copy\t",
	} {
		if checkDef(t, nil, s) {
			t.Error("definition", s)
		}
	}
	for _, name := range badNames() {
		if checkDef(t, full, name+" = copy") || checkDef(t, nil, name+" = copy") {
			t.Error("definition of", name)
		}
	}
	for i, d := range full {
		for _, lib := range libraries() {
			checkDef(t, lib, d.Name+" = id 1")
			checkDef(t, lib, "b = "+d.Name)
			checkDef(t, lib, "b = "+d.Name+" ; id 1")
		}
		if !checkDef(t, full[:i], d.Name+" = id 1") || checkDef(t, full[:i+1], d.Name+" = id 1") || checkDef(t, full[:i], "b = "+d.Name) || !checkDef(t, full[:i+1], "b = "+d.Name) {
			t.Error("definition of or with", d.Name)
		}
	}
	// The definition is one, even if there are too many for one more.
	if !checkDef(t, full, "b = twice") || !checkDef(t, nil, "b = "+chainText(200)) || !checkDef(t, full, "longest8 = long") {
		t.Error("definitions at the limits")
	}
	for n := maxText - 1; n <= maxText+1; n++ {
		if s := "b = copy" + strings.Repeat(" ", n-8); checkDef(t, nil, s) != (n <= maxText) || checkDef(t, nil, strings.Repeat("\n", n-8)+s[:8]) != (n <= maxText) {
			t.Error("definition of", n, "bytes")
		}
	}
	for _, lib := range invalidLibraries() {
		for _, s := range []string{"c = copy", "c = twice", "", "b"} {
			if d, ok := impl.ParseDef(lib, s); ok || !sameDef(d, impl.Def{}) {
				t.Error("definition of an invalid library", len(lib), s, d, ok)
			}
		}
	}
}

// oddDefs returns definitions that are valid in some libraries or in none.
func oddDefs() []impl.Def {
	defs := slices.Clone(fullLibrary())
	for _, lib := range invalidLibraries() {
		defs = append(defs, lib[len(lib)-1])
	}
	return append(defs, impl.Def{Name: "c", In: 1, Out: 1, Body: nameTerm("twice")}, impl.Def{Name: "longest8", In: 12, Out: 12, Body: chainTerm(200, idTerm(12))}, impl.Def{Name: "c", In: 1, Out: 2, Body: nameTerm("copies")})
}

func TestPrintedDefinitions(t *testing.T) {
	for _, lib := range libraries() {
		for _, d := range oddDefs() {
			want, valid := "", isLibrary(append(slices.Clone(lib), d))
			if valid {
				body, _ := treeIn(lib, d.Body)
				want = d.Name + " = " + printed(body, false)
			}
			s, ok := impl.PrintDef(lib, d)
			if s != want || ok != valid {
				t.Fatalf("text of %v: %q %v, not %q %v", d, s, ok, want, valid)
			}
			if back, isDef := impl.ParseDef(lib, s); ok && (!isDef || !sameDef(back, d)) {
				t.Fatalf("definition of the text %q: %v %v", s, back, isDef)
			}
		}
	}
	for _, lib := range invalidLibraries() {
		for _, d := range oddDefs() {
			if s, ok := impl.PrintDef(lib, d); ok || s != "" {
				t.Fatal("text of a definition of an invalid library", len(lib), d, s, ok)
			}
		}
	}
	if s, ok := impl.PrintDef(nil, impl.Def{Name: "twice", In: 1, Out: 1, Body: seqOf(leafTerm(impl.TmCopy), leafTerm(impl.TmAdd))}); s != "twice = copy ; add" || !ok {
		t.Error("text of a definition", s, ok)
	}
}

// fullText is the text of fullLibrary.
func fullText() string {
	return strings.Join([]string{
		"twice = copy ; add", "a = zero", "longname = twice * twice", "empty = id 0", "wide = id 10 * longname", "id1 = twice ; (coscale 96 ; twice)", "x0 = codiscard ; id1 ; cozero", "copies = copy", "swapped = (copies ; swap) * (a * empty)", "scal = scale 4", "long = wide" + strings.Repeat(" ; wide", 199), "z9 = delay",
	}, "\n") + "\n"
}

func TestTextsOfLibraries(t *testing.T) {
	for _, lib := range libraries() {
		want := ""
		for _, line := range strings.SplitAfter(fullText(), "\n")[:len(lib)] {
			want += line
		}
		if s, ok := impl.PrintLibrary(lib); s != want || !ok {
			t.Fatalf("text of a library with %d definitions: %q %v", len(lib), s, ok)
		}
		if back, ok := impl.ParseLibrary(want); !ok || !sameLibrary(back, lib) {
			t.Fatal("library of a text with", len(lib), "definitions", back, ok)
		}
	}
	for _, lib := range invalidLibraries() {
		if s, ok := impl.PrintLibrary(lib); ok || s != "" {
			t.Error("text of an invalid library", len(lib), s, ok)
		}
	}
}

func TestLibrariesOfTexts(t *testing.T) {
	text := fullText()
	for _, s := range []string{"", text, "b = copy\n", " b = copy ; add \n  c=b\n", "b = id 1\nc = b ; b\nd = c * b\n"} {
		if !checkLibrary(t, s) {
			t.Errorf("no library of %q", s)
		}
	}
	for _, s := range []string{
		// A last line that is not ended, and lines that are no definitions.
		text[:len(text)-1], "b = copy", "\n", " ", " \n", "\n\n", "b = copy\n\n", "\nb = copy\n", "b = copy\n ", "b = copy\n \n", "b = copy\nc", "b = copy\nc\n", "b = copy\r\n", "b = copy;\nadd\n", "b\n= copy\n", "b = copy c = copy\n",
		// Names that are not defined yet, or have been.
		"b = c\nc = copy\n", "b = b\n", "b = copy\nb = copy\n", "b = copy\nb = add\n", "b = copy ; copy\n", "copy = copy\n", "b = copy = copy\n", "b : copy = copy\n",
		// One definition too many.
		text + "more = copy\n", text + text,
	} {
		if checkLibrary(t, s) {
			t.Errorf("library of %.1000q", s)
		}
	}
	for i := range text {
		if i < 200 || i > len(text)-40 {
			checkLibrary(t, text[:i])
			checkLibrary(t, text[:i]+text[i+1:])
			checkLibrary(t, text[:i]+"\n"+text[i:])
		}
	}
	for n := maxText - 1; n <= maxText+1; n++ {
		padding := strings.Repeat(" ", n-len(text))
		for _, s := range []string{text[:len(text)-1] + padding + "\n", padding + text, strings.Replace(text, "=", "="+padding, 1), strings.Replace(text, "empty = ", "empty = "+padding, 1)} {
			if len(s) != n || checkLibrary(t, s) != (n <= maxText) {
				t.Error("library of", n, "bytes")
			}
		}
	}
	for _, s := range []string{strings.Repeat("\n", maxText), strings.Repeat("b = copy\n", 5000), strings.Repeat(" ", maxText)} {
		if checkLibrary(t, s) {
			t.Errorf("library of %.10q", s)
		}
	}
}

// layeredText returns the text of n layers 2 -> 2 with two edges each, beside wires and single edges: they have 3 n + 2 + wires + 2 delays wires in all.
func layeredText(n, wires, delays int) string {
	return "(add ; copy" + strings.Repeat(" ; add ; copy", n-1) + ")" + strings.Repeat(" * delay", delays) + strings.Repeat(" * id 1", wires)
}

func TestRulesOfTexts(t *testing.T) {
	for _, s := range []string{
		"a : copy ; swap = copy", "a:copy=copy", "longname : id 0 = id 0", " a\n:\ncopy\n=\ncopy ", "x1 : scale 96 = coscale 0", "name : delay = codelay", "a : id 12 = id 6 * id 6", "b : (copy) = ((copy))", "a : copy ; (id 1 * copy) = copy ; copy * id 1",
	} {
		if !checkRule(t, s) {
			t.Errorf("no rule of %q", s)
		}
	}
	for _, s := range []string{
		"", " ", "a", "a :", "a : copy", "a : copy =", "a : = copy", "a : =", ": copy = copy", "copy = copy", "a = copy : copy", "a copy = copy", "a : copy copy", "a : copy : copy", "a : copy = copy = copy", "a : copy = copy :", "a : a : copy = copy", "a : : copy = copy", "a : copy == copy", "a b : copy = copy", "(a) : copy = copy", "1 : copy = copy", "a 1 : copy = copy",
		// Terms that are none, or have names.
		"a : copy ; copy = copy", "a : copy = copy ; copy", "a : copy ; = copy", "a : copy = ) copy", "a : (copy = copy)", "a : none = none", "a : a = a", "a : id 13 = id 13", "a : scale 97 = scale 1", "a : scale 1 = coscale 97", "a : id = id", "a : copy = A", "a : copy = copy\t", "a : 01 = copy", "a : id 1 = id 01",
		// Terms of different types.
		"a : copy = add", "a : copy = id 1", "a : id 1 = id 2", "a : copy = discard", "a : add = cozero", "a : zero = codiscard ; copy",
		"a : " + chainText(201) + " = id 1", "a : id 1 = " + chainText(201),
	} {
		if checkRule(t, s) {
			t.Errorf("rule of %q", s)
		}
	}
	for _, name := range badNames() {
		if checkRule(t, name+" : copy = copy") {
			t.Error("rule with the name", name)
		}
	}
	for n := maxText - 1; n <= maxText+1; n++ {
		if checkRule(t, "a : copy = copy"+strings.Repeat(" ", n-15)) != (n <= maxText) || checkRule(t, "a :"+strings.Repeat("\n", n-14)+"copy = copy") != (n <= maxText) {
			t.Error("rule of", n, "bytes")
		}
	}
}

// TestGraphsOfRules meets the limits of the graphs of the terms of rules.
func TestGraphsOfRules(t *testing.T) {
	delays := func(n int) string { return "delay" + strings.Repeat(" ; delay", n-1) }
	for _, c := range []struct {
		text string
		id   string
		ok   bool
	}{
		{delays(59), "id 1", true}, {delays(60), "id 1", true}, {delays(61), "id 1", false}, {delays(200), "id 1", false}, {chainText(200), "id 1", true}, {"id 12" + strings.Repeat(" ; id 12", 199), "id 12", true}, {"swap" + strings.Repeat(" ; swap", 199), "id 2", true},
		{"id 0" + strings.Repeat(" * id 0", 199), "id 0", true}, {"(zero ; cozero)" + strings.Repeat(" * (zero ; cozero)", 29), "id 0", true}, {"(zero ; cozero)" + strings.Repeat(" * (zero ; cozero)", 29) + " * cozero", "discard", false},
		// 60 edges and up to 102 wires, and 59 or 61 edges.
		{layeredText(30, 7, 0), "id 9", true}, {layeredText(30, 8, 0), "id 10", true}, {layeredText(30, 9, 0), "id 11", false}, {layeredText(30, 10, 0), "id 12", false}, {layeredText(29, 0, 2), "id 4", true}, {layeredText(29, 7, 2), "id 11", true}, {layeredText(29, 8, 2), "id 12", false}, {layeredText(29, 7, 1), "id 10", true}, {layeredText(29, 0, 3), "id 5", false}, {layeredText(28, 6, 4), "id 12", true}, {layeredText(28, 4, 5), "id 11", false},
		{layeredText(16, 0, 0) + " * " + layeredText(14, 0, 0) + " * id 6", "id 10", true}, {layeredText(16, 0, 0) + " * " + layeredText(14, 0, 0) + " * id 7", "id 11", false},
		{layeredText(30, 9, 0) + " ; id 11", "id 11", false}, {"id 10 ; " + layeredText(30, 8, 0), "id 10", true},
	} {
		for _, s := range []string{"a : " + c.text + " = " + c.id, "a : " + c.id + " = " + c.text} {
			if checkRule(t, s) != c.ok {
				t.Errorf("rule of %q: %v", s, !c.ok)
			}
		}
	}
}

// oddRules returns rules and values that are none.
func oddRules() []impl.Rule {
	copies, id := leafTerm(impl.TmCopy), idTerm(1)
	rules := []impl.Rule{
		{}, {Name: "a"}, {Name: "a", Left: id}, {Name: "a", Right: id}, {Left: id, Right: id}, {Name: "a", Left: id, Right: id}, {Name: "longname", Left: copies, Right: seqOf(copies, leafTerm(impl.TmSwap))}, {Name: "a", Left: copies, Right: id}, {Name: "a", Left: id, Right: copies}, {Name: "a", Left: copies, Right: leafTerm(impl.TmCocopy)},
		{Name: "a", Left: nameTerm("twice"), Right: nameTerm("twice")}, {Name: "a", Left: chainTerm(60, leafTerm(impl.TmDelay)), Right: id}, {Name: "a", Left: chainTerm(61, leafTerm(impl.TmDelay)), Right: id}, {Name: "a", Left: id, Right: chainTerm(61, scaleTerm(1))}, {Name: "a", Left: chainTerm(200, id), Right: chainTerm(200, id)}, {Name: "a", Left: chainTerm(201, id), Right: id}, {Name: "a", Left: scaleTerm(96), Right: coscaleTerm(96)},
	}
	for _, name := range append(badNames(), "a\n", strings.Repeat("a", 100000)) {
		rules = append(rules, impl.Rule{Name: name, Left: id, Right: id})
	}
	for _, x := range invalidTerms() {
		rules = append(rules, impl.Rule{Name: "a", Left: x, Right: x}, impl.Rule{Name: "a", Left: x, Right: id}, impl.Rule{Name: "a", Left: id, Right: x})
	}
	return rules
}

func checkPrintedRule(t *testing.T, r impl.Rule) {
	want, valid := "", isRule(r)
	if valid {
		want = r.Name + " : " + printed(validTree(r.Left), false) + " = " + printed(validTree(r.Right), false)
	}
	s, ok := impl.PrintRule(r)
	if s != want || ok != valid {
		t.Fatalf("text of the rule %v: %q %v, not %q %v", r, s, ok, want, valid)
	}
	if back, isRule := impl.ParseRule(s); ok && (!isRule || !sameRule(back, r)) {
		t.Fatalf("rule of the text %q: %v %v", s, back, isRule)
	}
}

func TestPrintedRules(t *testing.T) {
	for _, r := range oddRules() {
		checkPrintedRule(t, r)
	}
	cases := termCases()
	for i, c := range cases {
		whole := validTree(c.t)
		checkPrintedRule(t, impl.Rule{Name: "a", Left: c.t, Right: seqOf(c.t, idTerm(whole.out))})
		checkPrintedRule(t, impl.Rule{Name: "b2", Left: whole.mirror(), Right: whole.mirror()})
		checkPrintedRule(t, impl.Rule{Name: "c", Left: c.t, Right: cases[(i+1)%len(cases)].t})
	}
	if s, ok := impl.PrintRule(impl.Rule{Name: "a", Left: seqOf(leafTerm(impl.TmCopy), leafTerm(impl.TmSwap)), Right: leafTerm(impl.TmCopy)}); s != "a : copy ; swap = copy" || !ok {
		t.Error("text of a rule", s, ok)
	}
}
