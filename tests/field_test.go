package tests

import (
	"math"
	"slices"
	"testing"

	"loop.example/g01073/impl"
)

// fields are written out, so that the tests do not rely on IsField.
var fields = []int{2, 3, 5, 7, 11, 13, 17, 19, 23, 29, 31, 37, 41, 43, 47, 53, 59, 61, 67, 71, 73, 79, 83, 89, 97}

// powersOf returns the powers of a with the exponents 0..n-1, made by multiplying again and again.
func powersOf(p, a, n int) []int {
	powers := make([]int, n)
	power := 1
	for i := range powers {
		powers[i] = power
		power = power * a % p
	}
	return powers
}

// rootsOf returns all elements x with a x^2 + b x + c = 0, increasing.
func rootsOf(p, a, b, c int) []int {
	var roots []int
	for x := range p {
		if (a*x*x+b*x+c)%p == 0 {
			roots = append(roots, x)
		}
	}
	return roots
}

func TestFieldsArePrimes(t *testing.T) {
	if impl.MaxPrime != 97 {
		t.Error("MaxPrime", impl.MaxPrime)
	}
	for p := -200; p <= 20000; p++ {
		if impl.IsField(p) != slices.Contains(fields, p) {
			t.Error("IsField", p)
		}
	}
}

func TestSumsAndProducts(t *testing.T) {
	for _, p := range fields {
		for a := range p {
			for b := range p {
				if s, ok := impl.FieldAdd(p, a, b); s != (a+b)%p || !ok {
					t.Fatal("sum", p, a, b, s, ok)
				}
				if m, ok := impl.FieldMul(p, a, b); m != (a*b)%p || !ok {
					t.Fatal("product", p, a, b, m, ok)
				}
			}
		}
	}
}

func TestInverses(t *testing.T) {
	for _, p := range fields {
		if x, ok := impl.FieldInverse(p, 0); x != 0 || ok {
			t.Error("0 has an inverse", p, x, ok)
		}
		for a := 1; a < p; a++ {
			x, ok := impl.FieldInverse(p, a)
			if x <= 0 || x >= p || a*x%p != 1 || !ok {
				t.Error("inverse", p, a, x, ok)
			}
			if y, ok := impl.FieldPower(p, a, -1); y != x || !ok {
				t.Error("power -1", p, a, y, ok)
			}
		}
	}
}

func TestPowers(t *testing.T) {
	for _, p := range fields {
		for a := range p {
			for n, want := range powersOf(p, a, 200) {
				x, ok := impl.FieldPower(p, a, n)
				if x != want || !ok {
					t.Fatal("power", p, a, n, x, ok)
				}
				y, ok := impl.FieldPower(p, a, -n)
				if a == 0 && n > 0 {
					if y != 0 || ok {
						t.Fatal("negative power of 0", p, n, y, ok)
					}
				} else if x*y%p != 1 || y < 0 || y >= p || !ok {
					t.Fatal("negative power", p, a, n, y, ok)
				}
			}
		}
	}
}

func TestPowersWithLargeExponents(t *testing.T) {
	const most = 10000
	for _, p := range fields {
		for a := range p {
			want := powersOf(p, a, most+1)
			for n := most - 3; n <= most; n++ {
				if x, ok := impl.FieldPower(p, a, n); x != want[n] || !ok {
					t.Fatal("power", p, a, n, x, ok)
				}
				x, ok := impl.FieldPower(p, a, -n)
				if ok != (a != 0) || ok && x*want[n]%p != 1 || x < 0 || x >= p {
					t.Fatal("negative power", p, a, n, x, ok)
				}
			}
			for _, n := range []int{most + 1, -most - 1, math.MaxInt, math.MinInt} {
				if x, ok := impl.FieldPower(p, a, n); x != 0 || ok {
					t.Fatal("exponent out of range", p, a, n, x, ok)
				}
			}
		}
	}
}

func TestOrders(t *testing.T) {
	for _, p := range fields {
		if n, ok := impl.ElementOrder(p, 0); n != 0 || ok {
			t.Error("0 has an order", p, n, ok)
		}
		for a := 1; a < p; a++ {
			want := 1 + slices.Index(powersOf(p, a, p)[1:], 1)
			if n, ok := impl.ElementOrder(p, a); n != want || !ok {
				t.Error("order", p, a, n, ok)
			}
			if x, ok := impl.FieldPower(p, a, want); x != 1 || !ok {
				t.Error("power with the order", p, a, x, ok)
			}
		}
	}
	if n, ok := impl.ElementOrder(2, 1); n != 1 || !ok {
		t.Error("order of 1 modulo 2", n, ok)
	}
}

func TestPrimitiveRoots(t *testing.T) {
	for _, p := range fields {
		root, ok := impl.PrimitiveRoot(p)
		if root <= 0 || root >= p || !ok {
			t.Fatal("primitive root", p, root, ok)
		}
		for a := 1; a <= root; a++ {
			isRoot := slices.Index(powersOf(p, a, p)[1:], 1) == p-2
			if isRoot != (a == root) {
				t.Error("not the least primitive root", p, root, a)
			}
		}
	}
	if root, ok := impl.PrimitiveRoot(2); root != 1 || !ok {
		t.Error("primitive root modulo 2", root, ok)
	}
}

func TestDiscreteLogs(t *testing.T) {
	for _, p := range fields {
		for base := range p {
			powers := powersOf(p, base, 2*p)
			for a := range p {
				want := slices.Index(powers, a)
				n, ok := impl.DiscreteLog(p, base, a)
				if ok != (want >= 0) || n != max(want, 0) {
					t.Fatal("logarithm", p, base, a, n, ok)
				}
			}
		}
		if n, ok := impl.DiscreteLog(p, 0, 0); n != 1 || !ok {
			t.Error("0 as a power of 0", p, n, ok)
		}
		if n, ok := impl.DiscreteLog(p, 0, 1); n != 0 || !ok {
			t.Error("1 as a power of 0", p, n, ok)
		}
	}
}

func TestSquareRoots(t *testing.T) {
	for _, p := range fields {
		for a := range p {
			roots := rootsOf(p, 1, 0, p-a)
			x, ok := impl.SquareRoot(p, a)
			if ok != (len(roots) > 0) || ok && x != roots[0] || !ok && x != 0 {
				t.Error("square root", p, a, x, ok)
			}
		}
	}
}

func TestQuadraticRoots(t *testing.T) {
	for _, p := range fields {
		step := 1 + p/16
		for a := 0; a < p; a += step {
			for b := 0; b < p; b += step {
				for c := 0; c < p; c += step {
					roots, ok := impl.QuadraticRoots(p, a, b, c)
					if !slices.Equal(roots, rootsOf(p, a, b, c)) || !ok {
						t.Fatal("roots", p, a, b, c, roots, ok)
					}
				}
			}
		}
		if roots, ok := impl.QuadraticRoots(p, 0, 0, 0); len(roots) != p || !ok {
			t.Error("every element is a root of 0", p, roots, ok)
		}
		if roots, ok := impl.QuadraticRoots(p, 0, 0, p-1); len(roots) != 0 || !ok {
			t.Error("roots of -1", p, roots, ok)
		}
		if roots, ok := impl.QuadraticRoots(p, 0, 1, p-1); !slices.Equal(roots, []int{1}) || !ok {
			t.Error("roots of x - 1", p, roots, ok)
		}
	}
}

func TestExamplesOfFields(t *testing.T) {
	if n, ok := impl.ElementOrder(7, 2); n != 3 || !ok {
		t.Error("order of 2 modulo 7", n, ok)
	}
	for a := range 2 {
		if x, ok := impl.SquareRoot(2, a); x != a || !ok {
			t.Error("square root modulo 2", a, x, ok)
		}
	}
	for coefficients, want := range map[[3]int][]int{{1, 1, 1}: nil, {1, 0, 1}: {1}, {1, 1, 0}: {0, 1}, {0, 1, 0}: {0}} {
		roots, ok := impl.QuadraticRoots(2, coefficients[0], coefficients[1], coefficients[2])
		if !slices.Equal(roots, want) || !ok {
			t.Error("roots modulo 2", coefficients, roots, ok)
		}
	}
}
