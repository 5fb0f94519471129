package tests

import (
	"math/rand/v2"
	"slices"
	"strings"
	"testing"

	"loop.example/g01073/impl"
)

// This file tests tokens, the terms of texts and the positions of faults (P6).

func TestConstantsOfTexts(t *testing.T) {
	codes := []int{impl.SxOk, impl.SxLong, impl.SxByte, impl.SxNumber, impl.SxSyntax, impl.SxName, impl.SxValue, impl.SxType}
	if !slices.Equal(codes, elementsOf(8)) {
		t.Error("codes", codes)
	}
	if impl.TkWord != 1 || impl.TkNumber != 2 || impl.TkSymbol != 3 || impl.MaxText != maxText {
		t.Error("kinds of tokens or limit", impl.TkWord, impl.TkNumber, impl.TkSymbol, impl.MaxText)
	}
}

// checkTokens compares the tokens of a text with those that the tests read.
func checkTokens(t *testing.T, s string) {
	tokens, at, code := impl.Tokenize(s)
	wantTokens, wantAt, wantCode := readTokens(s)
	if !slices.Equal(tokens, wantTokens) || at != wantAt || code != wantCode {
		t.Fatalf("tokens of %.100q: %v %d %d, not %v %d %d", s, tokens, at, code, wantTokens, wantAt, wantCode)
	}
}

// checkTerm compares the term of a text with the one that the tests read.
func checkTerm(t *testing.T, lib []impl.Def, s string) {
	x, at, code := impl.ParseTerm(lib, s)
	want, wantAt, wantCode := readText(lib, s)
	if !sameTerm(x, want) || at != wantAt || code != wantCode {
		t.Fatalf("term of %.1000q: %v %d %d, not %v %d %d", s, x, at, code, want, wantAt, wantCode)
	}
}

func TestShortTokens(t *testing.T) {
	const alphabet = "az19 0\n;(*A"
	for n := range 6 {
		for _, indices := range argumentLists(elementsOf(len(alphabet)), n) {
			s := make([]byte, n)
			for i, index := range indices {
				s[i] = alphabet[index]
			}
			checkTokens(t, string(s))
		}
	}
	for b := range 256 {
		for _, before := range []string{"", "a", "1", ";", " ", "0", "a ", "12345 "} {
			for _, behind := range []string{"", "a", "1", "0"} {
				checkTokens(t, before+string([]byte{byte(b)})+behind)
			}
		}
	}
}

func TestExamplesOfTokens(t *testing.T) {
	word := func(text string, at int) impl.Token { return impl.Token{Kind: impl.TkWord, Text: text, At: at} }
	number := func(text string, at int) impl.Token { return impl.Token{Kind: impl.TkNumber, Text: text, At: at} }
	symbol := func(text string, at int) impl.Token { return impl.Token{Kind: impl.TkSymbol, Text: text, At: at} }
	for _, c := range []struct {
		s    string
		want []impl.Token
	}{
		{"", nil}, {" ", nil}, {"\n \n", nil},
		{"copy", []impl.Token{word("copy", 0)}}, {"a1b2", []impl.Token{word("a1b2", 0)}}, {"0", []impl.Token{number("0", 0)}}, {"999999", []impl.Token{number("999999", 0)}},
		{"id 12", []impl.Token{word("id", 0), number("12", 3)}}, {"id12", []impl.Token{word("id12", 0)}}, {"12id", []impl.Token{number("12", 0), word("id", 2)}}, {"1 2", []impl.Token{number("1", 0), number("2", 2)}}, {"0a0", []impl.Token{number("0", 0), word("a0", 1)}},
		{"a00000000", []impl.Token{word("a00000000", 0)}}, {"a b", []impl.Token{word("a", 0), word("b", 2)}}, {"a\nb ", []impl.Token{word("a", 0), word("b", 2)}},
		{";*()=:", []impl.Token{symbol(";", 0), symbol("*", 1), symbol("(", 2), symbol(")", 3), symbol("=", 4), symbol(":", 5)}}, {" a:b;c=1", []impl.Token{word("a", 1), symbol(":", 2), word("b", 3), symbol(";", 4), word("c", 5), symbol("=", 6), number("1", 7)}},
	} {
		if tokens, at, code := impl.Tokenize(c.s); !slices.Equal(tokens, c.want) || at != 0 || code != impl.SxOk {
			t.Errorf("tokens of %q: %v %d %d", c.s, tokens, at, code)
		}
	}
	for _, c := range []struct {
		s        string
		at, code int
	}{
		{"A", 0, impl.SxByte}, {"copy ; Add", 7, impl.SxByte}, {"a\tb", 1, impl.SxByte}, {"a\r\n", 1, impl.SxByte}, {"a_b", 1, impl.SxByte}, {"é", 0, impl.SxByte}, {"a\x00", 1, impl.SxByte}, {"\xff", 0, impl.SxByte}, {"id -1", 3, impl.SxByte}, {"a.b", 1, impl.SxByte}, {"`", 0, impl.SxByte}, {"{", 0, impl.SxByte}, {"/", 0, impl.SxByte}, {"a,b", 1, impl.SxByte},
		{"1000000", 0, impl.SxNumber}, {"id 1234567", 3, impl.SxNumber}, {"id 01", 3, impl.SxNumber}, {"00", 0, impl.SxNumber}, {" 012345", 1, impl.SxNumber}, {"000000000", 0, impl.SxNumber}, {"a 00a", 2, impl.SxNumber}, {"99999999999999999999999", 0, impl.SxNumber},
		// The first fault counts.
		{"01A", 0, impl.SxNumber}, {"A01", 0, impl.SxByte}, {"1234567 _", 0, impl.SxNumber}, {"; _ 1234567", 2, impl.SxByte}, {") ) A", 4, impl.SxByte},
	} {
		if tokens, at, code := impl.Tokenize(c.s); len(tokens) > 0 || at != c.at || code != c.code {
			t.Errorf("tokens of %q: %v %d %d", c.s, tokens, at, code)
		}
		if x, at, code := impl.ParseTerm(nil, c.s); len(x.Nodes) > 0 || at != c.at || code != c.code {
			t.Errorf("term of %q: %v %d %d", c.s, x, at, code)
		}
	}
}

// TestLongTexts meets MaxText, and passes it by one.
func TestLongTexts(t *testing.T) {
	depth := (maxText - 4) / 2
	deep := strings.Repeat("(", depth) + "copy" + strings.Repeat(")", depth)
	padded := "copy" + strings.Repeat(" ", maxText-4)
	for _, s := range []string{deep, padded} {
		if x, at, code := impl.ParseTerm(nil, s); !sameTerm(x, leafTerm(impl.TmCopy)) || at != 0 || code != impl.SxOk {
			t.Errorf("term of %.10q: %v %d %d", s, x, at, code)
		}
	}
	for _, c := range []struct {
		s        string
		at, code int
	}{
		{strings.Repeat(" ", maxText), maxText, impl.SxSyntax}, {strings.Repeat("\n", maxText), maxText, impl.SxSyntax}, {strings.Repeat("(", maxText), maxText, impl.SxSyntax}, {strings.Repeat(")", maxText), 0, impl.SxSyntax}, {strings.Repeat(";", maxText), 0, impl.SxSyntax}, {strings.Repeat("id 1;", 8000), maxText, impl.SxSyntax},
		{"(" + deep[:maxText-1], maxText, impl.SxSyntax}, {deep[1:] + ")", maxText - 2, impl.SxSyntax},
		{strings.Repeat("a", maxText), 0, impl.SxName}, {strings.Repeat("1", maxText), 0, impl.SxNumber}, {strings.Repeat("A", maxText), 0, impl.SxByte}, {strings.Repeat(" ", maxText-1) + "A", maxText - 1, impl.SxByte}, {padded[:maxText-1] + ")", maxText - 1, impl.SxSyntax},
		{chainText(5714) + "     ", len(chainText(200)) + 1, impl.SxLong}, {"copy" + strings.Repeat("*copy", 7999) + " ", 29, impl.SxType}, {strings.Repeat("(id 1;", 5713) + "id 1" + strings.Repeat(")", 5713) + "     ", 6*400 + 1, impl.SxLong},
	} {
		checkTokens(t, c.s)
		if x, at, code := impl.ParseTerm(nil, c.s); len(c.s) != maxText || len(x.Nodes) > 0 || at != c.at || code != c.code {
			t.Errorf("term of %.10q with %d bytes: %v %d %d, not %d %d", c.s, len(c.s), x, at, code, c.at, c.code)
		}
		for _, s := range []string{c.s + " ", " " + c.s, c.s + c.s} {
			checkTokens(t, s)
			if x, at, code := impl.ParseTerm(nil, s); len(x.Nodes) > 0 || at != 0 || code != impl.SxLong {
				t.Errorf("term of %.10q with %d bytes: %v %d %d", s, len(s), x, at, code)
			}
		}
	}
}

// TestShortTexts goes through all texts of a few tokens.
func TestShortTexts(t *testing.T) {
	lib := fullLibrary()[:1]
	for _, c := range []struct {
		n      int
		tokens []string
	}{
		{4, strings.Fields("copy add id scale 1 2 13 97 ; * ( ) = : twice none")},
		{6, strings.Fields("zero id 1 ; * ( )")},
	} {
		for n := range c.n + 1 {
			for _, indices := range argumentLists(elementsOf(len(c.tokens)), n) {
				var words []string
				for _, i := range indices {
					words = append(words, c.tokens[i])
				}
				checkTerm(t, lib, strings.Join(words, " "))
			}
		}
	}
}

func TestExamplesOfTexts(t *testing.T) {
	copies, swap, add := leafTerm(impl.TmCopy), leafTerm(impl.TmSwap), leafTerm(impl.TmAdd)
	for kind := impl.TmSwap; kind <= impl.TmCodelay; kind++ {
		if s := leafNames[kind]; !isNumbered(kind) {
			if x, at, code := impl.ParseTerm(nil, s); !sameTerm(x, leafTerm(kind)) || at != 0 || code != impl.SxOk {
				t.Errorf("term of %q: %v %d %d", s, x, at, code)
			}
		}
	}
	for _, c := range []struct {
		s    string
		want impl.Term
	}{
		{"copy ; (id 1 * copy)", seqOf(copies, parOf(idTerm(1), copies))}, {"copy ; id 1 * copy", seqOf(copies, parOf(idTerm(1), copies))},
		{"id 0", idTerm(0)}, {"id 12", idTerm(12)}, {"scale 0", scaleTerm(0)}, {"scale 96", scaleTerm(96)}, {"coscale 96", coscaleTerm(96)}, {"coscale 5", coscaleTerm(5)}, {"  (  copy\n)\n", copies}, {"((copy))", copies}, {"(id\n1)", idTerm(1)},
		{"copy;swap;add", seqOf(copies, swap, add)}, {"copy;(swap;add)", seqOf(copies, seqOf(swap, add))}, {"(copy;swap);add", seqOf(copies, swap, add)},
		{"copy*swap*add", parOf(copies, swap, add)}, {"copy*(swap*add)", parOf(copies, parOf(swap, add))}, {"(copy*swap)*add", parOf(copies, swap, add)},
		{"copy*copy;add*add", seqOf(parOf(copies, copies), parOf(add, add))}, {"copy*(copy;swap)*id 2", parOf(copies, seqOf(copies, swap), idTerm(2))}, {"scale 3*id 1;add", seqOf(parOf(scaleTerm(3), idTerm(1)), add)}, {"id 1scale 2", impl.Term{}},
	} {
		x, at, code := impl.ParseTerm(nil, c.s)
		if len(c.want.Nodes) > 0 && (!sameTerm(x, c.want) || at != 0 || code != impl.SxOk) || len(c.want.Nodes) == 0 && code == impl.SxOk {
			t.Errorf("term of %q: %v %d %d", c.s, x, at, code)
		}
	}
}

func TestFaultsOfTexts(t *testing.T) {
	lib := fullLibrary()
	for _, c := range []struct {
		s        string
		at, code int
	}{
		// Tokens that cannot stand where they stand, and tokens that end too early.
		{"", 0, impl.SxSyntax}, {"   ", 3, impl.SxSyntax}, {"\n", 1, impl.SxSyntax}, {"copy ; )", 7, impl.SxSyntax}, {"copy ;", 6, impl.SxSyntax}, {"copy ; \n", 8, impl.SxSyntax}, {";", 0, impl.SxSyntax}, {"* copy", 0, impl.SxSyntax}, {"copy ; ; copy", 7, impl.SxSyntax}, {"copy * ; copy", 7, impl.SxSyntax},
		{"copy copy", 5, impl.SxSyntax}, {"copy 1", 5, impl.SxSyntax}, {"1", 0, impl.SxSyntax}, {"copy ; 1", 7, impl.SxSyntax}, {"id", 2, impl.SxSyntax}, {"id ", 3, impl.SxSyntax}, {"copy ; scale", 12, impl.SxSyntax}, {"coscale", 7, impl.SxSyntax}, {"id ; copy", 3, impl.SxSyntax}, {"id id 1", 3, impl.SxSyntax}, {"id (1)", 3, impl.SxSyntax}, {"id 1 2", 5, impl.SxSyntax}, {"scale copy", 6, impl.SxSyntax}, {"scale )", 6, impl.SxSyntax},
		{"(", 1, impl.SxSyntax}, {"()", 1, impl.SxSyntax}, {")", 0, impl.SxSyntax}, {"(copy", 5, impl.SxSyntax}, {"(copy ; add", 11, impl.SxSyntax}, {"copy)", 4, impl.SxSyntax}, {"(copy))", 6, impl.SxSyntax}, {"((copy)", 7, impl.SxSyntax}, {"(copy) copy", 7, impl.SxSyntax}, {"(copy)(copy)", 6, impl.SxSyntax}, {"copy (add)", 5, impl.SxSyntax}, {"(copy ;)", 7, impl.SxSyntax}, {"(copy *) add", 7, impl.SxSyntax},
		{"=", 0, impl.SxSyntax}, {":", 0, impl.SxSyntax}, {"copy = copy", 5, impl.SxSyntax}, {"a : copy", 2, impl.SxSyntax}, {"copy ; =", 7, impl.SxSyntax}, {"(copy = copy)", 6, impl.SxSyntax}, {"id = 1", 3, impl.SxSyntax},
		// Syntax comes before names, values and types.
		{"none ; id 13 ; copy ; copy ; )", 29, impl.SxSyntax}, {"none ; id 99", 0, impl.SxName}, {"add ; id 99", 6, impl.SxValue},
		// Bytes and numbers come before the syntax.
		{") A", 2, impl.SxByte}, {") 01", 2, impl.SxNumber}, {"none copy 1234567", 10, impl.SxNumber},
		// Names.
		{"none", 0, impl.SxName}, {"copy ; none", 7, impl.SxName}, {"copy * (id 1 ; twicetwice)", 15, impl.SxName}, {"longnames", 0, impl.SxName}, {"twic", 0, impl.SxName}, {"twice ; seq", 8, impl.SxName}, {"par", 0, impl.SxName}, {"copy0", 0, impl.SxName}, {"id0", 0, impl.SxName},
		// Values, at the word.
		{"id 13", 0, impl.SxValue}, {"copy ; id 999999", 7, impl.SxValue}, {"scale 97", 0, impl.SxValue}, {"id 1 * coscale 97", 7, impl.SxValue}, {"( scale 100000 )", 2, impl.SxValue}, {"scale 13 ; id 96", 11, impl.SxValue},
		// Types, at the symbol.
		{"copy ; swap ; add ; add", 18, impl.SxType}, {"copy ; copy", 5, impl.SxType}, {"copy ; (copy ; add)", 5, impl.SxType}, {"copy ; (copy ; copy)", 13, impl.SxType}, {"id 1 ; zero", 5, impl.SxType}, {"id 12 * discard", 6, impl.SxType}, {"id 12 * zero", 6, impl.SxType}, {"discard * id 6 * id 6", 15, impl.SxType}, {"id 12 * id 0 * copy", 13, impl.SxType}, {"twice ; copy ; a", 13, impl.SxType}, {"a ; longname", 2, impl.SxType}, {"wide * a", 5, impl.SxType},
		// The first node with a fault counts: the parts come before the joint, and A comes before B.
		{"copy ; copy ; none", 5, impl.SxType}, {"copy ; (copy ; none)", 15, impl.SxName}, {"copy ; copy * none", 14, impl.SxName}, {"copy ; none * copy ; copy", 7, impl.SxName}, {"id 13 ; none", 0, impl.SxValue}, {"none ; id 13", 0, impl.SxName}, {"copy ; (id 13 * none)", 8, impl.SxValue}, {"copy ; copy ; id 13", 5, impl.SxType}, {"id 12 * zero * none", 6, impl.SxType},
	} {
		if x, at, code := impl.ParseTerm(lib, c.s); len(x.Nodes) > 0 || at != c.at || code != c.code {
			t.Errorf("term of %q: %v %d %d, not %d %d", c.s, x, at, code, c.at, c.code)
		}
		checkTerm(t, lib, c.s)
	}
}

// chainText returns the text of the composition of n parts id 1.
func chainText(n int) string { return "id 1" + strings.Repeat(" ; id 1", n-1) }

// TestLimitsOfNodes meets MaxNodes with nodes of all kinds, that have another fault or not.
func TestLimitsOfNodes(t *testing.T) {
	if x, at, code := impl.ParseTerm(nil, chainText(200)); !sameTerm(x, chainTerm(200, idTerm(1))) || at != 0 || code != impl.SxOk {
		t.Error("longest term", at, code)
	}
	// With the last one of two or of three parts that are not joined yet, a leaf is the node 401 or the node 400.
	two, three := chainText(100)+" ; ("+chainText(101)+" ; ", chainText(100)+" ; ("+chainText(50)+" ; ("+chainText(51)+" ; "
	for _, c := range []struct {
		s        string
		at, code int
	}{
		{chainText(201), len(chainText(200)) + 1, impl.SxLong}, {chainText(200) + " ; none", len(chainText(200)) + 3, impl.SxName}, {chainText(200) + " ; id 13", len(chainText(200)) + 3, impl.SxValue}, {chainText(200) + " ; copy ; none", len(chainText(200)) + 1, impl.SxLong}, {chainText(200) + " ; copy * none", len(chainText(200)) + 10, impl.SxLong},
		{chainText(199) + " ; add", len(chainText(199)) + 1, impl.SxType}, {chainText(200) + " ; add", len(chainText(200)) + 1, impl.SxLong}, {chainText(500), len(chainText(200)) + 1, impl.SxLong},
		{two + "none)", len(two), impl.SxLong}, {two + "id 13)", len(two), impl.SxLong}, {two + "id 1)", len(two), impl.SxLong}, {two + "add)", len(two), impl.SxLong},
		{three + "none))", len(three), impl.SxName}, {three + "id 13))", len(three), impl.SxValue}, {three + "add))", len(three) - 2, impl.SxLong}, {three + "id 1))", len(three) - 2, impl.SxLong},
		{chainText(201) + " ; )", len(chainText(201)) + 3, impl.SxSyntax},
	} {
		if x, at, code := impl.ParseTerm(nil, c.s); len(x.Nodes) > 0 || at != c.at || code != c.code {
			t.Errorf("term of ... %q: %v %d %d, not %d %d", c.s[len(c.s)-20:], x, at, code, c.at, c.code)
		}
	}
	full := fullLibrary()
	if x, at, code := impl.ParseTerm(full, "long"+strings.Repeat(" ; long", 199)); len(x.Nodes) != 399 || at != 0 || code != impl.SxOk {
		t.Error("longest term of names", at, code)
	}
}

// TestRandomTexts reads texts of terms with blanks and parentheses, and such texts with a changed place.
func TestRandomTexts(t *testing.T) {
	source := rand.New(rand.NewPCG(6, 1))
	lib := fullLibrary()
	pieces := strings.Fields("copy id scale 1 0 12 13 97 00 ; * ( ) = : twice wide none A - add;add")
	for _, c := range termCases() {
		if len(c.t.Nodes) > 60 {
			continue
		}
		s := randomText(source, validTree(c.t))
		if x, at, code := impl.ParseTerm(lib, s); !sameTerm(x, c.t) || at != 0 || code != impl.SxOk {
			t.Fatalf("term of %q: %v %d %d", s, x, at, code)
		}
		for range 4 {
			at := source.IntN(len(s) + 1)
			behind := min(len(s), at+source.IntN(3)*source.IntN(5))
			checkTerm(t, lib, s[:at]+pieces[source.IntN(len(pieces))]+s[behind:])
			checkTerm(t, lib, s[:at]+s[behind:])
			checkTerm(t, lib, s[:at]+" "+pieces[source.IntN(len(pieces))]+" "+s[at:])
		}
	}
}

// TestTextsInLibraries reads one text with libraries that define its names or not.
func TestTextsInLibraries(t *testing.T) {
	for _, lib := range libraries() {
		for _, s := range []string{"twice", "twice ; twice", "a ; twice", "longname", "longname ; twice * id 1", "empty", "z9", "copy ; add", "long ; id 12", "swapped", "id1", "id 1", "x0", "none", "twice * (a ; none)", "a ; longname"} {
			checkTerm(t, lib, s)
		}
	}
	for _, lib := range invalidLibraries() {
		for _, s := range []string{"copy", "", ")", "A", "twice", strings.Repeat(" ", maxText+1)} {
			if x, at, code := impl.ParseTerm(lib, s); len(x.Nodes) > 0 || at != 0 || code != 0 {
				t.Error("term of an invalid library", len(lib), x, at, code)
			}
		}
	}
}
