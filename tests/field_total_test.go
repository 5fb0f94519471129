package tests

import (
	"math"
	"slices"
	"testing"

	"loop.example/g01073/impl"
)

// fieldCall is a function of chapter 1 that takes a number of elements and perhaps an exponent; for QuadraticRoots call returns the number of roots.
type fieldCall struct {
	name     string
	elements int
	exponent bool
	call     func(p int, x []int) (int, bool)
}

func fieldCalls() []fieldCall {
	return []fieldCall{
		{"FieldAdd", 2, false, func(p int, x []int) (int, bool) { return impl.FieldAdd(p, x[0], x[1]) }},
		{"FieldMul", 2, false, func(p int, x []int) (int, bool) { return impl.FieldMul(p, x[0], x[1]) }},
		{"FieldInverse", 1, false, func(p int, x []int) (int, bool) { return impl.FieldInverse(p, x[0]) }},
		{"FieldPower", 1, true, func(p int, x []int) (int, bool) { return impl.FieldPower(p, x[0], x[1]) }},
		{"ElementOrder", 1, false, func(p int, x []int) (int, bool) { return impl.ElementOrder(p, x[0]) }},
		{"PrimitiveRoot", 0, false, func(p int, _ []int) (int, bool) { return impl.PrimitiveRoot(p) }},
		{"DiscreteLog", 2, false, func(p int, x []int) (int, bool) { return impl.DiscreteLog(p, x[0], x[1]) }},
		{"SquareRoot", 1, false, func(p int, x []int) (int, bool) { return impl.SquareRoot(p, x[0]) }},
		{"QuadraticRoots", 3, false, func(p int, x []int) (int, bool) {
			roots, ok := impl.QuadraticRoots(p, x[0], x[1], x[2])
			return len(roots), ok
		}},
	}
}

// argumentLists returns all lists of n of the values.
func argumentLists(values []int, n int) [][]int {
	lists := [][]int{nil}
	for range n {
		var longer [][]int
		for _, list := range lists {
			for _, v := range values {
				longer = append(longer, append(slices.Clone(list), v))
			}
		}
		lists = longer
	}
	return lists
}

// isValid reports whether x may be the list of arguments of f behind p.
func (f fieldCall) isValid(p int, x []int) bool {
	if !slices.Contains(fields, p) {
		return false
	}
	for _, a := range x[:f.elements] {
		if a < 0 || a >= p {
			return false
		}
	}
	return !f.exponent || x[f.elements] >= -10000 && x[f.elements] <= 10000
}

// check calls f with p and all lists of the values: a panic ends the test.
func (f fieldCall) check(t *testing.T, p int, values []int) {
	arguments := f.elements
	if f.exponent {
		arguments++
	}
	for _, x := range argumentLists(values, arguments) {
		n, ok := f.call(p, x)
		if ok && !f.isValid(p, x) || !ok && n != 0 {
			t.Fatal(f.name, "of invalid arguments", p, x, n, ok)
		}
		if again, okAgain := f.call(p, x); again != n || okAgain != ok {
			t.Fatal(f.name, "depends on earlier calls", p, x)
		}
	}
}

func TestFieldFunctionsAreTotal(t *testing.T) {
	moduli := []int{math.MinInt, math.MinInt + 1, -97, -7, -2, -1, 0, 1, 2, 3, 4, 7, 9, 49, 91, 96, 97, 98, 99, 101, 121, 10007, 1 << 32, math.MaxInt - 1, math.MaxInt}
	for _, p := range moduli {
		values := []int{math.MinInt, math.MinInt + 1, -10001, -10000, -1, 0, 1, 2, 96, 97, 10000, 10001, 1 << 32, math.MaxInt}
		if p > 0 && p < math.MaxInt {
			values = append(values, p-1, p, p+1)
		}
		for _, f := range fieldCalls() {
			f.check(t, p, values)
		}
	}
}

func TestIsFieldIsTotal(t *testing.T) {
	for _, p := range []int{math.MinInt, math.MinInt + 1, -2, 0, 1, 101, 10007, 1 << 32, math.MaxInt - 1, math.MaxInt} {
		if impl.IsField(p) {
			t.Error("IsField", p)
		}
	}
}

func TestFailedRootsAreNil(t *testing.T) {
	for _, x := range [][4]int{{4, 1, 0, 1}, {0, 0, 0, 0}, {101, 1, 0, 1}, {5, 5, 0, 1}, {5, 1, -1, 1}, {5, 1, 0, 5}} {
		if roots, ok := impl.QuadraticRoots(x[0], x[1], x[2], x[3]); roots != nil || ok {
			t.Error("roots of invalid arguments", x, roots, ok)
		}
	}
}

func TestRootsAreNewMemory(t *testing.T) {
	first, _ := impl.QuadraticRoots(5, 1, 0, 1)
	full := first[:cap(first)]
	for i := range full {
		full[i] = -1
	}
	second, ok := impl.QuadraticRoots(5, 1, 0, 1)
	if !slices.Equal(second, []int{2, 3}) || !ok {
		t.Error("roots share memory with earlier ones", second, ok)
	}
}
