package tests

import (
	"math/rand/v2"
	"slices"
	"testing"

	"loop.example/g01073/impl"
)

// TestReducedBasesAreUnique counts the spaces by the numbers that are known for small sizes.
func TestReducedBasesAreUnique(t *testing.T) {
	if impl.MaxSpanRows != 48 {
		t.Error("MaxSpanRows", impl.MaxSpanRows)
	}
	for _, c := range []struct{ p, size, longest, spaces int }{{2, 0, 3, 1}, {2, 1, 4, 2}, {2, 2, 4, 5}, {2, 3, 4, 16}, {3, 1, 4, 2}, {3, 2, 3, 6}, {3, 3, 3, 28}, {5, 2, 3, 8}} {
		vectors := argumentLists(elementsOf(c.p), c.size)
		valid := 0
		for n := range c.longest + 1 {
			for _, indices := range argumentLists(elementsOf(len(vectors)), n) {
				s := impl.Space{Size: c.size}
				for _, index := range indices {
					s.Basis = append(s.Basis, vectors[index])
				}
				if impl.IsSpace(c.p, s) {
					valid++
				}
				if impl.IsSpace(c.p, s) != isReducedList(s.Basis) {
					t.Fatal("IsSpace", c.p, s)
				}
			}
		}
		if valid != c.spaces {
			t.Error("spaces", c, valid)
		}
	}
}

func TestSpacesAreValid(t *testing.T) {
	for _, c := range spacePairs() {
		if !impl.IsSpace(c.p, c.a) || !impl.IsSpace(c.p, c.b) {
			t.Error("no space", c)
		}
	}
	for size := -2; size < maxSide+3; size++ {
		if impl.IsSpace(7, spaceOf(size)) != (size >= 0 && size <= maxSide) {
			t.Error("space of the size", size)
		}
		if size > 0 && impl.IsSpace(7, wholeSpace(size)) != (size <= maxSide) {
			t.Error("whole space of the size", size)
		}
	}
	for p := -10; p <= 200; p++ {
		if impl.IsSpace(p, spaceOf(2, []int{1, 0})) != slices.Contains(fields, p) || impl.IsSpace(p, spaceOf(2)) != slices.Contains(fields, p) {
			t.Error("space over", p)
		}
	}
	invalid := []impl.Space{
		spaceOf(0, []int{}), spaceOf(0, nil), spaceOf(0, []int{1}), spaceOf(1, nil), spaceOf(1, []int{0}), spaceOf(1, []int{2}), spaceOf(1, []int{1}, []int{1}),
		spaceOf(2, []int{0, 0}), spaceOf(2, []int{1, 0}, []int{0, 0}), spaceOf(2, []int{2, 0}), spaceOf(2, []int{1, 1}, []int{0, 1}), spaceOf(2, []int{0, 1}, []int{1, 0}),
		spaceOf(2, []int{1, 5}), spaceOf(2, []int{1, -1}), spaceOf(2, []int{1}), spaceOf(2, []int{1, 0, 0}), spaceOf(2, []int{1, 0}, []int{1, 0}),
		spaceOf(3, []int{1, 0, 0}, []int{0, 0, 1}, []int{0, 1, 0}), spaceOf(3, []int{1, 0, 0}, []int{0, 1, 0}, []int{1, 0, 1}), spaceOf(3, []int{1, 0, 0}, []int{0, 1, 0}, []int{0, 4, 1}),
		spaceOf(3, []int{1, 2, 0}, []int{0, 3, 1}), spaceOf(3, []int{1, 0, 0}, []int{0, 1}),
	}
	for _, s := range invalid {
		if impl.IsSpace(5, s) {
			t.Error("is a space", s)
		}
	}
}

func TestSpans(t *testing.T) {
	for _, c := range matrixCases() {
		if s, ok := impl.SpanOf(c.p, c.m.Cols, c.m.Rows); !ok || !sameSpace(s, spannedBy(c.p, c.m.Cols, c.m.Rows)) {
			t.Fatal("span", c.p, c.m, s, ok)
		}
	}
	source := rand.New(rand.NewPCG(3, 1))
	for _, rows := range []int{maxSide + 1, 47, 48} {
		for _, size := range []int{0, 1, 7, maxSide} {
			m := thinMatrix(source, 7, rows, size)
			if s, ok := impl.SpanOf(7, size, m.Rows); !ok || !sameSpace(s, spannedBy(7, size, m.Rows)) {
				t.Error("span", m, s, ok)
			}
		}
	}
	if s, ok := impl.SpanOf(5, 2, [][]int{{2, 4}, {4, 3}}); !ok || !sameSpace(s, spaceOf(2, []int{1, 2})) {
		t.Error("span", s, ok)
	}
	for _, c := range []struct {
		p, size int
		rows    [][]int
	}{
		{5, 3, zeroMatrix(49, 3).Rows}, {5, 0, zeroMatrix(49, 0).Rows}, {5, -1, nil}, {5, maxSide + 1, nil}, {5, maxSide + 1, [][]int{make([]int, maxSide+1)}}, {4, 2, nil}, {98, 0, nil},
		{5, 2, [][]int{{1}}}, {5, 2, [][]int{{1, 2, 3}}}, {5, 2, [][]int{{1, 2}, nil}}, {5, 2, [][]int{{1, 5}}}, {5, 2, [][]int{{-1, 1}}}, {5, 0, [][]int{{0}}}, {5, 1, [][]int{{}}},
	} {
		if s, ok := impl.SpanOf(c.p, c.size, c.rows); ok || !sameSpace(s, impl.Space{}) {
			t.Error("span of invalid rows", c, s, ok)
		}
	}
}

// TestSmallSpaces compares sums, meets and orthogonals with the sets of all vectors.
func TestSmallSpaces(t *testing.T) {
	for _, table := range spaceTables() {
		p := table.p
		for _, a := range table.spaces {
			vectors := vectorsOf(p, a)
			want := table.where(func(w []int) bool {
				return !slices.ContainsFunc(vectors, func(v []int) bool { return dot(p, v, w) != 0 })
			})
			if s, ok := impl.OrthogonalOf(p, a); !ok || !sameSpace(s, want) {
				t.Error("orthogonal", p, a, s, ok)
			}
			for _, b := range table.spaces {
				others := vectorsOf(p, b)
				var sums [][]int
				for _, v := range vectors {
					for _, w := range others {
						sums = append(sums, listTimes(p, []int{1, 1}, impl.Matrix{Cols: table.size, Rows: [][]int{v, w}}))
					}
				}
				if s, ok := impl.SumOf(p, a, b); !ok || !sameSpace(s, table.with(sums)) {
					t.Error("sum", p, a, b, s, ok)
				}
				both := slices.DeleteFunc(others, func(w []int) bool { return !hasList(vectors, w) })
				if s, ok := impl.MeetOf(p, a, b); !ok || !sameSpace(s, table.with(both)) {
					t.Error("meet", p, a, b, s, ok)
				}
			}
		}
	}
}

// TestVectorsOfSmallSpaces compares membership, coordinates and separators with the sets of all vectors.
func TestVectorsOfSmallSpaces(t *testing.T) {
	for _, table := range spaceTables() {
		for _, s := range table.spaces {
			inside := vectorsOf(table.p, s)
			for _, v := range argumentLists(elementsOf(table.p), table.size) {
				checkVector(t, table.p, s, v, hasList(inside, v))
			}
		}
	}
}

// checkVector checks what the functions of chapter 3 return for a vector that is in s or not.
func checkVector(t *testing.T, p int, s impl.Space, v []int, inside bool) {
	t.Helper()
	if is, ok := impl.HasVector(p, s, v); !ok || is != inside {
		t.Error("HasVector", p, s, v, is, ok)
	}
	coordinates, ok := impl.CoordinatesOf(p, s, v)
	if ok != inside || !ok && len(coordinates) != 0 {
		t.Error("coordinates", p, s, v, coordinates, ok)
	}
	if inside && (len(coordinates) != len(s.Basis) || !slices.Equal(listTimes(p, coordinates, impl.Matrix{Cols: s.Size, Rows: s.Basis}), v)) {
		t.Error("coordinates", p, s, v, coordinates)
	}
	separator, ok := impl.SeparatorOf(p, s, v)
	if ok == inside || !slices.Equal(separator, firstSeparator(p, s, v)) {
		t.Error("separator", p, s, v, separator, ok)
	}
}

// firstSeparator follows the document's choice; it returns nil for a vector of s.
func firstSeparator(p int, s impl.Space, v []int) []int {
	for _, w := range orthogonalSpace(p, s).Basis {
		for factor := 1; factor < p; factor++ {
			multiple := listTimes(p, []int{factor}, impl.Matrix{Cols: s.Size, Rows: [][]int{w}})
			if dot(p, multiple, v) == 1 {
				return multiple
			}
		}
	}
	return nil
}

// TestVectorsOutsideHaveSeparators checks what a separator promises, beside which one it is.
func TestVectorsOutsideHaveSeparators(t *testing.T) {
	source := rand.New(rand.NewPCG(3, 2))
	for _, c := range spacePairs() {
		inside := listTimes(c.p, randomList(source, c.p, len(c.a.Basis)), impl.Matrix{Cols: c.a.Size, Rows: c.a.Basis})
		checkVector(t, c.p, c.a, inside, true)
		checkVector(t, c.p, c.a, make([]int, c.a.Size), true)
		for range 3 {
			v := randomList(source, c.p, c.a.Size)
			outside := rankOf(c.p, impl.Matrix{Cols: c.a.Size, Rows: slices.Concat(c.a.Basis, [][]int{v})}) > len(c.a.Basis)
			checkVector(t, c.p, c.a, v, !outside)
			w, ok := impl.SeparatorOf(c.p, c.a, v)
			if ok != outside {
				t.Fatal("separator", c, v, w, ok)
			}
			if ok && (len(w) != c.a.Size || dot(c.p, w, v) != 1 || slices.ContainsFunc(c.a.Basis, func(b []int) bool { return dot(c.p, w, b) != 0 })) {
				t.Fatal("separator", c, v, w)
			}
		}
	}
	if w, ok := impl.SeparatorOf(5, spaceOf(2, []int{1, 2}), []int{0, 1}); !ok || !slices.Equal(w, []int{3, 1}) {
		t.Error("separator of the example", w, ok)
	}
	if w, ok := impl.SeparatorOf(5, spaceOf(3), []int{0, 3, 2}); !ok || !slices.Equal(w, []int{0, 2, 0}) {
		t.Error("separator is not the first", w, ok)
	}
}

func TestVectorsOfWrongSizes(t *testing.T) {
	s := spaceOf(2, []int{1, 2})
	for _, v := range [][]int{nil, {}, {1}, {1, 2, 0}, {1, 5}, {6, 2}, {-4, 2}, {1, -3}, make([]int, maxSide+1)} {
		if in, ok := impl.HasVector(5, s, v); in || ok {
			t.Error("HasVector", v, in, ok)
		}
		if x, ok := impl.CoordinatesOf(5, s, v); len(x) != 0 || ok {
			t.Error("coordinates", v, x, ok)
		}
		if w, ok := impl.SeparatorOf(5, s, v); len(w) != 0 || ok {
			t.Error("separator", v, w, ok)
		}
	}
	if in, ok := impl.HasVector(5, spaceOf(0), nil); !in || !ok {
		t.Error("the vector without elements", in, ok)
	}
	if in, ok := impl.HasVector(5, spaceOf(0), []int{0}); in || ok {
		t.Error("vector of the size 1 in a space of the size 0", in, ok)
	}
}

func TestOrthogonalsExchangeSumsAndMeets(t *testing.T) {
	for _, c := range spacePairs() {
		sum, ok := impl.SumOf(c.p, c.a, c.b)
		if !ok || !sameSpace(sum, spannedBy(c.p, c.a.Size, stacked(c.a, c.b))) {
			t.Fatal("sum", c, sum, ok)
		}
		meet, ok := impl.MeetOf(c.p, c.a, c.b)
		if !ok || !sameSpace(meet, commonSpace(c.p, c.a, c.b)) {
			t.Fatal("meet", c, meet, ok)
		}
		a, ok := impl.OrthogonalOf(c.p, c.a)
		if !ok || !sameSpace(a, orthogonalSpace(c.p, c.a)) {
			t.Fatal("orthogonal", c, a, ok)
		}
		b, ok := impl.OrthogonalOf(c.p, c.b)
		if twice, again := impl.OrthogonalOf(c.p, b); !ok || !again || !sameSpace(twice, c.b) {
			t.Fatal("orthogonal of the orthogonal", c, b, twice, ok, again)
		}
		ofSum, ok := impl.OrthogonalOf(c.p, sum)
		if want, both := impl.MeetOf(c.p, a, b); !ok || !both || !sameSpace(ofSum, want) {
			t.Fatal("orthogonal of the sum", c, ofSum, want)
		}
		ofMeet, ok := impl.OrthogonalOf(c.p, meet)
		if want, both := impl.SumOf(c.p, a, b); !ok || !both || !sameSpace(ofMeet, want) {
			t.Fatal("orthogonal of the meet", c, ofMeet, want)
		}
	}
}

func TestSpacesOfDifferentSizes(t *testing.T) {
	pairs := [][2]impl.Space{
		{spaceOf(2), spaceOf(3)}, {spaceOf(0), spaceOf(1)}, {spaceOf(2, []int{1, 2}), spaceOf(3, []int{1, 2, 0})}, {spaceOf(2, []int{1, 2}), spaceOf(2, []int{2, 1})},
		{spaceOf(2, []int{0, 0}), spaceOf(2)}, {spaceOf(maxSide + 1), spaceOf(maxSide + 1)}, {spaceOf(-1), spaceOf(-1)},
	}
	for _, pair := range pairs {
		for _, order := range [][2]int{{0, 1}, {1, 0}} {
			a, b := pair[order[0]], pair[order[1]]
			if s, ok := impl.SumOf(5, a, b); ok || !sameSpace(s, impl.Space{}) {
				t.Error("sum", a, b, s, ok)
			}
			if s, ok := impl.MeetOf(5, a, b); ok || !sameSpace(s, impl.Space{}) {
				t.Error("meet", a, b, s, ok)
			}
		}
	}
	for _, s := range []impl.Space{spaceOf(2, []int{2, 1}), spaceOf(-1), spaceOf(maxSide + 1), spaceOf(0, nil)} {
		if o, ok := impl.OrthogonalOf(5, s); ok || !sameSpace(o, impl.Space{}) {
			t.Error("orthogonal", s, o, ok)
		}
	}
}
