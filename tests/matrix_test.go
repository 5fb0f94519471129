package tests

import (
	"math/rand/v2"
	"slices"
	"testing"

	"loop.example/g01073/impl"
)

func TestMatricesAreValid(t *testing.T) {
	if impl.MaxSide != maxSide {
		t.Error("MaxSide", impl.MaxSide)
	}
	for _, c := range matrixCases() {
		if !impl.IsMatrix(c.p, c.m) {
			t.Error("no matrix", c.p, c.m)
		}
	}
	for rows := range maxSide + 4 {
		for cols := range maxSide + 4 {
			m := zeroMatrix(rows, cols)
			if impl.IsMatrix(7, m) != (rows <= maxSide && cols <= maxSide) {
				t.Error("matrix of the size", rows, cols)
			}
		}
	}
}

func TestInvalidMatrices(t *testing.T) {
	m := matrixOf(2, []int{1, 0}, []int{1, 1})
	for p := -10; p <= 200; p++ {
		if impl.IsMatrix(p, m) != slices.Contains(fields, p) {
			t.Error("matrix over", p)
		}
	}
	invalid := []impl.Matrix{
		matrixOf(2, []int{1, 0}, []int{1}), matrixOf(2, []int{1}, []int{1, 0}), matrixOf(2, []int{1, 0, 0}, []int{0, 1, 0}),
		matrixOf(2, []int{1, 0}, nil), matrixOf(0, []int{}, []int{0}), matrixOf(-1), matrixOf(maxSide + 1),
		matrixOf(2, []int{1, 5}), matrixOf(2, []int{5, 1}), matrixOf(2, []int{1, -1}), matrixOf(2, []int{0, 0}, []int{0, 0}, []int{6, 0}),
	}
	for _, m := range invalid {
		if impl.IsMatrix(5, m) {
			t.Error("is a matrix", m)
		}
	}
}

func TestIdentityMatrices(t *testing.T) {
	for n := range maxSide + 1 {
		if m, ok := impl.IdentityMatrix(n); !ok || !sameMatrix(m, unitMatrix(n)) {
			t.Error("identity", n, m, ok)
		}
	}
	for _, n := range []int{-1, maxSide + 1} {
		if m, ok := impl.IdentityMatrix(n); ok || !sameMatrix(m, impl.Matrix{}) {
			t.Error("identity", n, m, ok)
		}
	}
}

func TestSumsOfMatrices(t *testing.T) {
	source := rand.New(rand.NewPCG(1, 2))
	for _, c := range matrixCases() {
		other := randomMatrix(source, c.p, len(c.m.Rows), c.m.Cols)
		want := copyMatrix(c.m)
		for i, row := range want.Rows {
			for j := range row {
				row[j] = (row[j] + other.Rows[i][j]) % c.p
			}
		}
		if sum, ok := impl.AddMatrices(c.p, c.m, other); !ok || !sameMatrix(sum, want) {
			t.Fatal("sum", c.p, c.m, other, sum, ok)
		}
	}
	m := zeroMatrix(2, 3)
	for _, other := range []impl.Matrix{zeroMatrix(3, 3), zeroMatrix(1, 3), zeroMatrix(2, 2), zeroMatrix(2, 4), zeroMatrix(0, 3), zeroMatrix(3, 2), {}} {
		if sum, ok := impl.AddMatrices(5, m, other); ok || !sameMatrix(sum, impl.Matrix{}) {
			t.Error("sum of different sizes", other, sum, ok)
		}
	}
	if sum, ok := impl.AddMatrices(5, zeroMatrix(0, 2), zeroMatrix(0, 3)); ok || !sameMatrix(sum, impl.Matrix{}) {
		t.Error("sum without rows, of different columns", sum, ok)
	}
}

func TestProductsOfMatrices(t *testing.T) {
	source := rand.New(rand.NewPCG(3, 4))
	for _, c := range matrixCases() {
		for _, cols := range []int{0, 1, 3, maxSide} {
			other := randomMatrix(source, c.p, c.m.Cols, cols)
			product, ok := impl.MulMatrices(c.p, c.m, other)
			if !ok || !sameMatrix(product, productOf(c.p, c.m, other)) {
				t.Fatal("product", c.p, c.m, other, product, ok)
			}
		}
	}
	if m, ok := impl.MulMatrices(5, zeroMatrix(2, 0), zeroMatrix(0, 3)); !ok || !sameMatrix(m, zeroMatrix(2, 3)) {
		t.Error("product over no columns", m, ok)
	}
	for _, other := range []impl.Matrix{zeroMatrix(2, 3), zeroMatrix(4, 3), zeroMatrix(0, 3), {}} {
		if m, ok := impl.MulMatrices(5, zeroMatrix(2, 3), other); ok || !sameMatrix(m, impl.Matrix{}) {
			t.Error("product of wrong sizes", other, m, ok)
		}
	}
}

func TestPowersOfMatrices(t *testing.T) {
	for _, c := range squareCases() {
		want := unitMatrix(c.m.Cols)
		for n := range 10 {
			if power, ok := impl.MatrixPower(c.p, c.m, n); !ok || !sameMatrix(power, want) {
				t.Fatal("power", c.p, c.m, n, power, ok)
			}
			want = productOf(c.p, want, c.m)
		}
	}
	for n := 970; n <= 1000; n++ {
		if power, ok := impl.MatrixPower(97, shiftMatrix(maxSide, 1), n); !ok || !sameMatrix(power, shiftMatrix(maxSide, n%maxSide)) {
			t.Error("power of a shift", n, power, ok)
		}
		want := matrixOf(2, []int{1, n % 97}, []int{0, 1})
		if power, ok := impl.MatrixPower(97, matrixOf(2, []int{1, 1}, []int{0, 1}), n); !ok || !sameMatrix(power, want) {
			t.Error("power of a shear", n, power, ok)
		}
	}
	for _, n := range []int{-1000, -1, 1001} {
		if power, ok := impl.MatrixPower(5, unitMatrix(2), n); ok || !sameMatrix(power, impl.Matrix{}) {
			t.Error("power out of range", n, power, ok)
		}
	}
	for _, m := range []impl.Matrix{zeroMatrix(2, 3), zeroMatrix(3, 2), zeroMatrix(0, 1), zeroMatrix(1, 0)} {
		for n := range 3 {
			if power, ok := impl.MatrixPower(5, m, n); ok || !sameMatrix(power, impl.Matrix{}) {
				t.Error("power of a matrix that is not square", m, n, power, ok)
			}
		}
	}
}

func TestTransposes(t *testing.T) {
	for _, c := range matrixCases() {
		turned, ok := impl.Transpose(c.p, c.m)
		if !ok || turned.Cols != len(c.m.Rows) || len(turned.Rows) != c.m.Cols {
			t.Fatal("transpose", c.p, c.m, turned, ok)
		}
		for j, column := range turned.Rows {
			for i, row := range c.m.Rows {
				if len(column) != len(c.m.Rows) || column[i] != row[j] {
					t.Fatal("transpose", c.p, c.m, turned)
				}
			}
		}
		if again, ok := impl.Transpose(c.p, turned); !ok || !sameMatrix(again, c.m) {
			t.Fatal("transpose of the transpose", c.p, c.m, again, ok)
		}
	}
}

func TestRowReductionAndRanks(t *testing.T) {
	for _, c := range matrixCases() {
		reduced, transform, ok := impl.RowReduce(c.p, c.m)
		wantReduced, wantTransform := reduceBeside(c.p, c.m)
		if !ok || !sameMatrix(reduced, wantReduced) || !sameMatrix(transform, wantTransform) {
			t.Fatal("reduction", c.p, c.m, reduced, transform, ok)
		}
		rank, ok := impl.RankOf(c.p, c.m)
		if !ok || rank != nonzeroRows(reduced) {
			t.Fatal("rank", c.p, c.m, rank, ok)
		}
		if !isReducedList(reduced.Rows[:rank]) || nonzeroRows(matrixOf(c.m.Cols, reduced.Rows[rank:]...)) > 0 {
			t.Fatal("not reduced", c.p, c.m, reduced)
		}
		if !sameMatrix(productOf(c.p, transform, c.m), reduced) || rankOf(c.p, transform) != len(c.m.Rows) {
			t.Fatal("transforming matrix", c.p, c.m, transform)
		}
		if turned, _ := impl.Transpose(c.p, c.m); rankOf(c.p, turned) != rank {
			t.Fatal("rank of the transpose", c.p, c.m)
		}
	}
}

func TestExamplesOfRowReduction(t *testing.T) {
	examples := []struct {
		p                     int
		m, reduced, transform impl.Matrix
	}{
		{5, matrixOf(2, []int{2, 4}, []int{1, 2}), matrixOf(2, []int{1, 2}, []int{0, 0}), matrixOf(2, []int{3, 0}, []int{2, 1})},
		{5, matrixOf(2, []int{0, 1}, []int{2, 0}, []int{3, 0}), matrixOf(2, []int{1, 0}, []int{0, 1}, []int{0, 0}), matrixOf(3, []int{0, 3, 0}, []int{1, 0, 0}, []int{0, 1, 1})},
		{2, matrixOf(3, []int{0, 0, 1}, []int{0, 1, 1}), matrixOf(3, []int{0, 1, 0}, []int{0, 0, 1}), matrixOf(2, []int{1, 1}, []int{1, 0})},
		{7, matrixOf(3), matrixOf(3), impl.Matrix{}},
		{7, zeroMatrix(3, 0), zeroMatrix(3, 0), unitMatrix(3)},
		{7, zeroMatrix(2, 3), zeroMatrix(2, 3), unitMatrix(2)},
		{7, impl.Matrix{}, impl.Matrix{}, impl.Matrix{}},
	}
	for _, e := range examples {
		reduced, transform, ok := impl.RowReduce(e.p, e.m)
		if !ok || !sameMatrix(reduced, e.reduced) || !sameMatrix(transform, e.transform) {
			t.Error("reduction", e.m, reduced, transform, ok)
		}
	}
}

func TestInversesOfMatrices(t *testing.T) {
	for _, c := range squareCases() {
		n := c.m.Cols
		inverse, ok := impl.InverseOf(c.p, c.m)
		if ok != (rankOf(c.p, c.m) == n) || !ok && !sameMatrix(inverse, impl.Matrix{}) {
			t.Fatal("inverse", c.p, c.m, inverse, ok)
		}
		if !ok {
			continue
		}
		if !sameMatrix(productOf(c.p, inverse, c.m), unitMatrix(n)) || !sameMatrix(productOf(c.p, c.m, inverse), unitMatrix(n)) {
			t.Fatal("product with the inverse", c.p, c.m, inverse)
		}
	}
	for _, m := range []impl.Matrix{matrixOf(3, []int{1, 0, 0}, []int{0, 1, 0}), matrixOf(2, []int{1, 0}, []int{0, 1}, []int{0, 0}), matrixOf(2), zeroMatrix(2, 0)} {
		if inverse, ok := impl.InverseOf(5, m); ok || !sameMatrix(inverse, impl.Matrix{}) {
			t.Error("inverse of a matrix that is not square", m, inverse, ok)
		}
	}
}

func TestDeterminants(t *testing.T) {
	for _, c := range squareCases() {
		d, ok := impl.DeterminantOf(c.p, c.m)
		if !ok || d < 0 || d >= c.p || (d != 0) != (rankOf(c.p, c.m) == c.m.Cols) {
			t.Fatal("determinant", c.p, c.m, d, ok)
		}
		if c.m.Cols <= 6 && d != expandDeterminant(c.p, c.m) {
			t.Fatal("determinant", c.p, c.m, d)
		}
		turned, _ := impl.Transpose(c.p, c.m)
		if e, ok := impl.DeterminantOf(c.p, turned); !ok || e != d {
			t.Fatal("determinant of the transpose", c.p, c.m, d, e)
		}
	}
	for p, want := range map[int]int{2: 1, 3: 2, 7: 6, 97: 96} {
		if d, ok := impl.DeterminantOf(p, matrixOf(2, []int{0, 1}, []int{1, 0})); d != want || !ok {
			t.Error("determinant of an exchange", p, d, ok)
		}
		if d, ok := impl.DeterminantOf(p, impl.Matrix{}); d != 1 || !ok {
			t.Error("determinant of the matrix without rows", p, d, ok)
		}
	}
	for _, m := range []impl.Matrix{zeroMatrix(2, 3), zeroMatrix(3, 2), zeroMatrix(0, 2), zeroMatrix(2, 0)} {
		if d, ok := impl.DeterminantOf(5, m); d != 0 || ok {
			t.Error("determinant of a matrix that is not square", m, d, ok)
		}
	}
}

func TestDeterminantsMultiply(t *testing.T) {
	source := rand.New(rand.NewPCG(5, 6))
	for _, c := range squareCases() {
		other := randomMatrix(source, c.p, c.m.Cols, c.m.Cols)
		product, _ := impl.MulMatrices(c.p, c.m, other)
		d, _ := impl.DeterminantOf(c.p, c.m)
		e, _ := impl.DeterminantOf(c.p, other)
		if f, ok := impl.DeterminantOf(c.p, product); !ok || f != d*e%c.p {
			t.Fatal("determinant of a product", c.p, c.m, other, d, e, f)
		}
	}
	for _, p := range fields {
		triangle, want := zeroMatrix(maxSide, maxSide), 1
		for i, row := range triangle.Rows {
			row[i] = 1 + source.IntN(p-1)
			want = want * row[i] % p
			copy(row[i+1:], randomList(source, p, maxSide-i-1))
		}
		if d, ok := impl.DeterminantOf(p, triangle); d != want || !ok {
			t.Error("determinant of a triangle", p, triangle, d, want, ok)
		}
	}
}

// checkSolution checks SolveLinear for one list b.
func checkSolution(t *testing.T, c matrixCase, b []int) {
	t.Helper()
	x, ok := impl.SolveLinear(c.p, c.m, b)
	extended := matrixOf(c.m.Cols, append(slices.Clone(c.m.Rows), b)...)
	if ok != (rankOf(c.p, extended) == rankOf(c.p, c.m)) || !ok && len(x) != 0 {
		t.Fatal("solution", c.p, c.m, b, x, ok)
	}
	if !ok {
		return
	}
	reduced, transform := reduceBeside(c.p, c.m)
	coefficients := make([]int, len(c.m.Rows))
	for i, row := range reduced.Rows {
		if lead := leadingIndex(row); lead >= 0 {
			coefficients[i] = b[lead]
		}
	}
	if !slices.Equal(x, listTimes(c.p, coefficients, transform)) || !slices.Equal(listTimes(c.p, x, c.m), b) {
		t.Fatal("solution", c.p, c.m, b, x)
	}
}

func TestLinearSystems(t *testing.T) {
	source := rand.New(rand.NewPCG(7, 8))
	for _, c := range matrixCases() {
		if c.p <= 3 && c.m.Cols <= 3 {
			for _, b := range argumentLists(elementsOf(c.p), c.m.Cols) {
				checkSolution(t, c, b)
			}
			continue
		}
		checkSolution(t, c, make([]int, c.m.Cols))
		checkSolution(t, c, randomList(source, c.p, c.m.Cols))
		checkSolution(t, c, listTimes(c.p, randomList(source, c.p, len(c.m.Rows)), c.m))
	}
}

func TestExamplesOfLinearSystems(t *testing.T) {
	m := matrixOf(2, []int{2, 4}, []int{1, 2})
	if x, ok := impl.SolveLinear(5, m, []int{3, 1}); !ok || !slices.Equal(x, []int{4, 0}) {
		t.Error("solution", x, ok)
	}
	for _, b := range [][]int{{0, 1}, {3, 2}, nil, {3}, {3, 1, 0}, {3, 6}, {-2, 1}, {8, 1}} {
		if x, ok := impl.SolveLinear(5, m, b); ok || x != nil {
			t.Error("no solution", b, x, ok)
		}
	}
	if x, ok := impl.SolveLinear(5, matrixOf(2), []int{0, 0}); !ok || len(x) != 0 {
		t.Error("solution without rows", x, ok)
	}
	if x, ok := impl.SolveLinear(5, matrixOf(2), []int{0, 1}); ok || x != nil {
		t.Error("no solution without rows", x, ok)
	}
	if x, ok := impl.SolveLinear(5, zeroMatrix(3, 0), nil); !ok || !slices.Equal(x, []int{0, 0, 0}) {
		t.Error("solution without columns", x, ok)
	}
	if x, ok := impl.SolveLinear(5, impl.Matrix{}, nil); !ok || len(x) != 0 {
		t.Error("solution without rows and columns", x, ok)
	}
}

func TestKernels(t *testing.T) {
	for _, c := range matrixCases() {
		kernel, ok := impl.KernelOf(c.p, c.m)
		if !ok || len(kernel) != len(c.m.Rows)-rankOf(c.p, c.m) {
			t.Fatal("kernel", c.p, c.m, kernel, ok)
		}
		for _, x := range kernel {
			if len(x) != len(c.m.Rows) || leadingIndex(listTimes(c.p, x, c.m)) >= 0 {
				t.Fatal("not in the kernel", c.p, c.m, x)
			}
		}
		// A subspace has only one reduced basis, so that this and the dimension determine the list.
		if !isReducedList(kernel) {
			t.Fatal("not reduced", c.p, c.m, kernel)
		}
	}
}

func TestExamplesOfKernels(t *testing.T) {
	if kernel, ok := impl.KernelOf(5, matrixOf(2, []int{2, 4}, []int{1, 2})); !ok || len(kernel) != 1 || !slices.Equal(kernel[0], []int{1, 3}) {
		t.Error("kernel", kernel, ok)
	}
	for _, m := range []impl.Matrix{{}, matrixOf(3), unitMatrix(4), matrixOf(maxSide)} {
		if kernel, ok := impl.KernelOf(5, m); !ok || len(kernel) != 0 {
			t.Error("kernel", m, kernel, ok)
		}
	}
	for _, m := range []impl.Matrix{zeroMatrix(maxSide, 0), zeroMatrix(maxSide, maxSide)} {
		if kernel, ok := impl.KernelOf(5, m); !ok || !sameMatrix(matrixOf(maxSide, kernel...), unitMatrix(maxSide)) {
			t.Error("kernel of zero", m, kernel, ok)
		}
	}
}
