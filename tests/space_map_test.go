package tests

import (
	"math/rand/v2"
	"slices"
	"testing"

	"loop.example/g01073/impl"
)

// This file tests images, preimages and projections of spaces.

// TestMapsOfSmallSpaces compares images and preimages with the sets of all vectors.
func TestMapsOfSmallSpaces(t *testing.T) {
	for _, c := range []struct{ p, rows, cols int }{{2, 0, 0}, {2, 0, 2}, {2, 2, 0}, {2, 1, 2}, {2, 2, 1}, {2, 2, 2}, {2, 2, 3}, {2, 3, 2}, {3, 1, 2}, {3, 2, 1}, {3, 2, 2}, {5, 1, 2}} {
		from, to := newSpaceTable(c.p, c.rows), newSpaceTable(c.p, c.cols)
		for _, m := range allMatrices(c.p, c.rows, c.cols) {
			for _, s := range from.spaces {
				image := productOf(c.p, impl.Matrix{Cols: c.rows, Rows: vectorsOf(c.p, s)}, m.m)
				if got, ok := impl.ImageOf(c.p, s, m.m); !ok || !sameSpace(got, to.with(image.Rows)) {
					t.Fatal("image", c, m, s, got, ok)
				}
			}
			for _, s := range to.spaces {
				vectors := vectorsOf(c.p, s)
				want := from.where(func(v []int) bool { return hasList(vectors, listTimes(c.p, v, m.m)) })
				if got, ok := impl.PreimageOf(c.p, s, m.m); !ok || !sameSpace(got, want) {
					t.Fatal("preimage", c, m, s, got, ok)
				}
			}
		}
	}
}

func TestImagesAndPreimages(t *testing.T) {
	source := rand.New(rand.NewPCG(3, 3))
	for _, c := range matrixCases() {
		rows, cols := len(c.m.Rows), c.m.Cols
		s := randomSpace(source, c.p, rows, source.IntN(rows+1))
		want := spannedBy(c.p, cols, productOf(c.p, impl.Matrix{Cols: rows, Rows: s.Basis}, c.m).Rows)
		image, ok := impl.ImageOf(c.p, s, c.m)
		if !ok || !sameSpace(image, want) {
			t.Fatal("image", c, s, image, ok)
		}
		back, ok := impl.PreimageOf(c.p, image, c.m)
		if !ok || !sameSpace(back, sourceSpace(c.p, image, c.m)) || !sameSpace(back, spannedBy(c.p, rows, slices.Concat(s.Basis, kernelRows(c.p, cols, c.m.Rows)))) {
			t.Fatal("preimage of an image", c, s, back, ok)
		}
		target := randomSpace(source, c.p, cols, source.IntN(cols+1))
		if back, ok := impl.PreimageOf(c.p, target, c.m); !ok || !sameSpace(back, sourceSpace(c.p, target, c.m)) {
			t.Fatal("preimage", c, target, back, ok)
		}
	}
}

func TestMapsOfWrongSizes(t *testing.T) {
	m := zeroMatrix(2, 3)
	for _, s := range []impl.Space{spaceOf(0), spaceOf(1), spaceOf(3), spaceOf(4), spaceOf(2, []int{2, 0}), spaceOf(2, []int{1}), spaceOf(-1)} {
		if image, ok := impl.ImageOf(5, s, m); ok || !sameSpace(image, impl.Space{}) {
			t.Error("image", s, image, ok)
		}
	}
	for _, s := range []impl.Space{spaceOf(0), spaceOf(1), spaceOf(2), spaceOf(4), spaceOf(3, []int{2, 0, 0}), spaceOf(3, []int{1}), spaceOf(-1)} {
		if back, ok := impl.PreimageOf(5, s, m); ok || !sameSpace(back, impl.Space{}) {
			t.Error("preimage", s, back, ok)
		}
	}
	for _, m := range []impl.Matrix{matrixOf(2, []int{1, 0}, []int{1}), matrixOf(2, []int{1, 0}, []int{0, 5}), zeroMatrix(2, maxSide+1), zeroMatrix(maxSide+1, 2), {Cols: -1, Rows: [][]int{nil, nil}}} {
		if image, ok := impl.ImageOf(5, spaceOf(len(m.Rows)), m); ok || !sameSpace(image, impl.Space{}) {
			t.Error("image under", m, image, ok)
		}
		if back, ok := impl.PreimageOf(5, spaceOf(m.Cols), m); ok || !sameSpace(back, impl.Space{}) {
			t.Error("preimage under", m, back, ok)
		}
	}
}

// TestProjectionsOfSmallSpaces compares the projections to all short lists of columns with the sets of all vectors.
func TestProjectionsOfSmallSpaces(t *testing.T) {
	for _, c := range []struct{ p, size int }{{2, 0}, {3, 1}, {2, 2}, {3, 2}, {2, 3}, {3, 3}} {
		for n := range 4 {
			to := newSpaceTable(c.p, n)
			for _, s := range newSpaceTable(c.p, c.size).spaces {
				for _, columns := range argumentLists(elementsOf(c.size), n) {
					var chosen [][]int
					for _, v := range vectorsOf(c.p, s) {
						chosen = append(chosen, chosenOf(v, columns))
					}
					if got, ok := impl.ProjectOf(c.p, s, columns); !ok || !sameSpace(got, to.with(chosen)) {
						t.Fatal("projection", c, s, columns, got, ok)
					}
				}
			}
		}
	}
}

func chosenOf(v []int, columns []int) []int {
	chosen := []int{}
	for _, column := range columns {
		chosen = append(chosen, v[column])
	}
	return chosen
}

func TestProjections(t *testing.T) {
	source := rand.New(rand.NewPCG(3, 4))
	for _, c := range spacePairs() {
		for _, n := range []int{0, 1, c.a.Size, maxSide} {
			if c.a.Size == 0 {
				n = 0
			}
			columns := randomList(source, max(c.a.Size, 1), n)
			var rows [][]int
			for _, b := range c.a.Basis {
				rows = append(rows, chosenOf(b, columns))
			}
			if got, ok := impl.ProjectOf(c.p, c.a, columns); !ok || !sameSpace(got, spannedBy(c.p, n, rows)) {
				t.Fatal("projection", c, columns, got, ok)
			}
		}
	}
	if s, ok := impl.ProjectOf(5, spaceOf(1, []int{1}), make([]int, maxSide)); !ok || s.Size != maxSide || len(s.Basis) != 1 {
		t.Error("projection to a repeated column", s, ok)
	}
	for _, c := range []struct {
		s       impl.Space
		columns []int
	}{
		{spaceOf(1, []int{1}), make([]int, maxSide+1)}, {spaceOf(2), []int{2}}, {spaceOf(2), []int{0, -1}}, {spaceOf(2), []int{1, 0, 5}}, {spaceOf(0), []int{0}},
		{wholeSpace(maxSide), []int{maxSide}}, {spaceOf(2, []int{3, 0}), []int{0}}, {spaceOf(-1), nil}, {spaceOf(maxSide + 1), nil},
	} {
		if got, ok := impl.ProjectOf(5, c.s, c.columns); ok || !sameSpace(got, impl.Space{}) {
			t.Error("projection", c, got, ok)
		}
	}
}
