package tests

import (
	"math"
	"math/rand/v2"
	"regexp"
	"slices"
	"strconv"
	"strings"
	"testing"

	"loop.example/g01073/impl"
)

// This file tests P10 for names of kinds and texts of graphs.

func TestNamesOfKinds(t *testing.T) {
	names := []string{3: "copy", 4: "discard", 5: "add", 6: "zero", 7: "scale", 8: "delay", 9: "cocopy", 10: "codiscard", 11: "coadd", 12: "cozero", 13: "coscale", 14: "codelay"}
	for kind := -3; kind <= 20; kind++ {
		want := ""
		if kind >= impl.TmCopy && kind <= impl.TmCodelay {
			want = names[kind]
		}
		if name, ok := impl.KindName(kind); name != want || ok != (want != "") {
			t.Error("name of", kind, name, ok)
		}
	}
	for _, kind := range []int{math.MinInt, -1 << 32, 1<<32 + 3, math.MaxInt} {
		if name, ok := impl.KindName(kind); ok || name != "" {
			t.Error("name of", kind, name, ok)
		}
	}
}

// graphLine is the form of a text of a graph, valid or not.
var graphLine = regexp.MustCompile(strings.NewReplacer(
	"N", `(?:0|[1-9][0-9]*)`,
	"L", `(?:(?:0|[1-9][0-9]*)(?:,(?:0|[1-9][0-9]*))*)?`,
	"W", `(?:copy|discard|add|zero|scale|delay|cocopy|codiscard|coadd|cozero|coscale|codelay)`,
).Replace(`^N\|L\|L(?:\|W(?::N)?\(L>L\))*$`))

// readGraph fails if a text has not the form of a text of a graph, if a number is too great or is missing, and if the graph is not valid.
func readGraph(s string) (impl.Graph, bool) {
	if !graphLine.MatchString(s) {
		return impl.Graph{}, false
	}
	tooGreat := false
	number := func(text string) int {
		n, err := strconv.Atoi(text)
		tooGreat = tooGreat || err != nil
		return n
	}
	list := func(text string) []int {
		var numbers []int
		for _, field := range strings.FieldsFunc(text, func(r rune) bool { return r == ',' }) {
			numbers = append(numbers, number(field))
		}
		return numbers
	}
	fields := strings.Split(s, "|")
	g := graphWith(number(fields[0]), list(fields[1]), list(fields[2]))
	for _, field := range fields[3:] {
		pieces := strings.FieldsFunc(strings.NewReplacer("(", " ( ", ">", " ").Replace(field), func(r rune) bool { return r == '(' || r == ')' })
		head := strings.Split(strings.TrimSpace(pieces[0]), ":")
		lists := strings.Split(strings.TrimPrefix(pieces[1], " "), " ")
		e := edgeOf(kindOf(head[0]), list(lists[0]), list(lists[1]))
		if len(head) > 1 {
			e.Value = number(head[1])
		}
		if len(head) > 1 != isScaleKind(e.Kind) {
			return impl.Graph{}, false
		}
		g.Edges = append(g.Edges, e)
	}
	return g, !tooGreat && isGraph(g)
}

// checkGraphLine compares what the program reads with what the text says, and reports whether there is a graph.
func checkGraphLine(t *testing.T, s string) bool {
	t.Helper()
	want, exists := readGraph(s)
	if !exists {
		want = impl.Graph{}
	}
	g, ok := impl.ParseGraph(s)
	if ok != exists || !sameGraph(g, want) {
		t.Fatalf("graph of %q: %v %v, not %v %v", s, g, ok, want, exists)
	}
	return ok
}

func TestTextsOfGraphs(t *testing.T) {
	for _, g := range slices.Concat(plainGraphs(2), tinyGraphs(), shapes(), monogamousShapes()) {
		want := writtenGraph(g)
		s, ok := impl.GraphText(g)
		if !ok || s != want {
			t.Fatalf("text of %v: %q %v, not %q", g, s, ok, want)
		}
		back, ok := impl.ParseGraph(s)
		checkGraph(t, back, ok, g, true, "parsed", s)
	}
	for _, g := range invalidGraphs() {
		if s, ok := impl.GraphText(g); ok || s != "" {
			t.Errorf("text of the invalid graph %v: %q", g, s)
		}
	}
	for _, c := range []struct {
		g    impl.Graph
		text string
	}{
		{impl.Graph{}, "0||"}, {graphWith(1, []int{0}, nil), "1|0|"}, {graphWith(1, nil, []int{0, 0}), "1||0,0"}, {graphWith(2, []int{1, 0}, []int{0}, scaleEdge(impl.TmScale, 0, 0, 1), scaleEdge(impl.TmCoscale, 96, 1, 0)), "2|1,0|0|scale:0(0>1)|coscale:96(1>0)"},
		{graphWith(3, nil, nil, edgeOf(impl.TmCoadd, []int{2}, []int{0, 1}), edgeOf(impl.TmCodiscard, nil, []int{1})), "3|||coadd(2>0,1)|codiscard(>1)"},
	} {
		if s, ok := impl.GraphText(c.g); !ok || s != c.text {
			t.Errorf("text of %v: %q %v", c.g, s, ok)
		}
	}
}

// TestChangedTextsOfGraphs changes, leaves out and adds bytes of texts.
func TestChangedTextsOfGraphs(t *testing.T) {
	valid := 0
	for _, s := range []string{"0||", "1|0|0", "2|1,0|0,1", "4|0|3|copy(0>1,2)|add(1,2>3)", "1|||zero(>0)|cozero(0>)", "2|0|1|scale:10(0>1)", "2|0||coscale:96(0>1)|delay(1>0)", "12|10,11|9,8,7|add(0,1>2)|coadd(3>4,5)|delay(6>6)"} {
		for i := range len(s) + 1 {
			for _, piece := range []string{"", "0", "1", "9", "|", ",", ":", ">", "(", ")", "-", "+", " ", "co", "x", "_", "\n", "\x00", "\xff", "|||", "0,", "|scale:1(0>0)", "|delay(0>0)"} {
				texts := []string{s[:i] + piece + s[i:]}
				if i < len(s) {
					texts = append(texts, s[:i]+piece+s[i+1:])
				}
				for _, changed := range texts {
					if checkGraphLine(t, changed) {
						valid++
					}
				}
			}
		}
	}
	if valid < 100 {
		t.Error("but", valid, "changed texts are valid")
	}
}

// TestShortTextsOfGraphs has all texts made of a few pieces.
func TestShortTextsOfGraphs(t *testing.T) {
	pieces := []string{"0", "1", "|", ",", "delay(", "0>0)", "scale:"}
	texts := []string{""}
	for range 6 {
		var longer []string
		for _, s := range texts {
			checkGraphLine(t, s)
			for _, piece := range pieces {
				if len(longer) < 20000 {
					longer = append(longer, s+piece)
				}
			}
		}
		texts = longer
	}
	source := rand.New(rand.NewPCG(10, 9))
	starts := []string{"1|0|0", "1||0", "2|0|1", "1||"}
	for range 20000 {
		s := starts[source.IntN(len(starts))]
		for range source.IntN(4) {
			s += []string{"|delay(0>0)", "|scale:1(0>0)", "|copy(0>0,1)", "|zero(>0)", "|scale(0>0)", "|delay:0(0>0)", "|discard(0>)", "|id(0>0)", "|swap(0,0>0,0)", "|copy(0>0)", "|delay(0>0", ")", "|", "|(0>0)", "|delay(0>0)(0>0)", "|delay((0>0)", "|delay(0>0>)", "|scale:1:1(0>0)"}[source.IntN(18)]
		}
		checkGraphLine(t, s)
	}
}

func TestExamplesOfGraphTexts(t *testing.T) {
	loops := func(n int) string { return "1|||" + strings.Repeat("delay(0>0)|", n-1) + "delay(0>0)" }
	for _, c := range []struct {
		text string
		ok   bool
	}{
		{"", false}, {"0", false}, {"0|", false}, {"0||", true}, {"0|||", false}, {"|0|0", false}, {"00||", false}, {"01|0|0", false}, {"1|00|0", false}, {"+1|0|0", false}, {"1|+0|0", false}, {"-0||", false}, {"-1||", false}, {" 1|0|0", false}, {"1|0|0\n", false}, {"1|0|0 ", false}, {"0x1|0|0", false}, {"1_0||", false},
		{"1|0,|0", false}, {"1|,0|0", false}, {"1|0,,0|0", false}, {"1|0;0|0", false}, {"1|,|0", false}, {"1|0|1", false}, {"2|0|0", false}, {"1||", false},
		{"1|0|0|delay(0>0)", true}, {"1|0|0|Delay(0>0)", false}, {"1|0|0|delay (0>0)", false}, {"1|0|0|delay(0>0))", false}, {"1|0|0|delay(0>0", false}, {"1|0|0|delay0>0)", false}, {"1|0|0|delay(0)", false}, {"1|0|0|delay(0>0)x", false}, {"1|0|0|delay:0(0>0)", false}, {"1|0|0|delay:(0>0)", false}, {"1|0|0|id(0>0)", false}, {"1|0|0|swap(0,0>0,0)", false}, {"1|0|0|(0>0)", false}, {"1|0|0|four(0>0)", false}, {"1|0|0|copy(0>0)", false}, {"1|0|0|copy(0>0,0)", true},
		{"1|0|0|scale(0>0)", false}, {"1|0|0|scale:(0>0)", false}, {"1|0|0|scale:0(0>0)", true}, {"1|0|0|scale:96(0>0)", true}, {"1|0|0|scale:97(0>0)", false}, {"1|0|0|scale:-1(0>0)", false}, {"1|0|0|scale:01(0>0)", false}, {"1|0|0|scale:+1(0>0)", false}, {"1|0|0|scale:1:1(0>0)", false}, {"1|0|0|coscale:96(0>0)", true}, {"1|0|0|coscale:18446744073709551617(0>0)", false}, {"1|0|0|scale:18446744073709551617(0>0)", false}, {"18446744073709551617|0|0", false}, {"1|18446744073709551616|0", false},
		{loops(60), true}, {loops(61), false}, {"1|" + strings.Repeat("0,", 11) + "0|0", true}, {"1|" + strings.Repeat("0,", 12) + "0|0", false}, {"1|0|" + strings.Repeat("0,", 11) + "0", true}, {"1|0|" + strings.Repeat("0,", 12) + "0", false},
		{writtenGraph(fullestGraph()), true}, {"101" + strings.TrimPrefix(writtenGraph(fullestGraph()), "100"), false}, {"99" + strings.TrimPrefix(writtenGraph(fullestGraph()), "100"), false},
		{strings.Repeat("0", 100000) + "||", false}, {"0||" + strings.Repeat("|", 1000000), false}, {"1|" + strings.Repeat("0,", 1000000) + "0|0", false}, {"1|0|0|" + strings.Repeat("x", 1000000), false}, {strings.Repeat("9", 1000000), false},
	} {
		if g, ok := impl.ParseGraph(c.text); ok != c.ok || !ok && !sameGraph(g, impl.Graph{}) {
			t.Errorf("graph of %.60q: %v %v", c.text, g, ok)
		}
	}
	g, ok := impl.ParseGraph("4|0|3|copy(0>1,2)|add(1,2>3)")
	checkGraph(t, g, ok, graphWith(4, []int{0}, []int{3}, edgeOf(impl.TmCopy, []int{0}, []int{1, 2}), edgeOf(impl.TmAdd, []int{1, 2}, []int{3})), true)
}

// TestTextsOfCanonicalGraphs checks that a canonical graph has the same text for all numbers.
func TestTextsOfCanonicalGraphs(t *testing.T) {
	source := rand.New(rand.NewPCG(10, 10))
	for _, text := range []string{"copy ; add", "copy * zero ; id 1 * add ; add", "zero ; cozero", "(codiscard ; discard) * (zero ; cozero) * delay"} {
		g, ok := impl.GraphOf(parsed(t, nil, text))
		want := writtenGraph(canonicalOf(g))
		for range 5 {
			k, isCanonical := impl.CanonicalGraph(shuffledGraph(source, g))
			if s, isText := impl.GraphText(k); !ok || !isCanonical || !isText || s != want {
				t.Errorf("canonical graph of %q: %q, not %q", text, s, want)
			}
		}
	}
}
