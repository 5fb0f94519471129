package impl

const MaxPrime = 97

const maxExponent = 10000

// The indices of smallPrimes.
const (
	indexOfTwo = iota
	indexOfThree
	indexOfFive
	indexOfSeven
)

// smallPrimes has all primes up to the square root of MaxPrime: a number in 2..MaxPrime that is not prime has one of them as a proper divisor.
var smallPrimes = [...]int{
	indexOfTwo:   2,
	indexOfThree: 3,
	indexOfFive:  5,
	indexOfSeven: 7,
}

// IsField reports whether p is a field.
func IsField(p int) bool {
	if p < 2 || p > MaxPrime {
		return false
	}
	for _, q := range smallPrimes {
		if p != q && p%q == 0 {
			return false
		}
	}
	return true
}

// FieldAdd returns the sum of two elements.
func FieldAdd(p int, a int, b int) (int, bool) {
	if !areElements(p, a, b) {
		return 0, false
	}
	return (a + b) % p, true
}

// FieldMul returns the product of two elements.
func FieldMul(p int, a int, b int) (int, bool) {
	if !areElements(p, a, b) {
		return 0, false
	}
	return a * b % p, true
}

// FieldInverse returns the element whose product with a is 1.
func FieldInverse(p int, a int) (int, bool) {
	if !areElements(p, a) || a == 0 {
		return 0, false
	}
	return inverseIn(p, a), true
}

// FieldPower returns a to the power n, for an element a and n in -10000..10000.
func FieldPower(p int, a int, n int) (int, bool) {
	if !areElements(p, a) || n < -maxExponent || n > maxExponent {
		return 0, false
	}
	if n >= 0 {
		return powerIn(p, a, n), true
	}
	if a == 0 {
		return 0, false
	}
	return powerIn(p, inverseIn(p, a), -n), true
}

// ElementOrder returns the least n > 0 for which a to the power n is 1.
func ElementOrder(p int, a int) (int, bool) {
	if !areElements(p, a) || a == 0 {
		return 0, false
	}
	return orderIn(p, a), true
}

// PrimitiveRoot returns the least element whose order is p - 1.
func PrimitiveRoot(p int) (int, bool) {
	if !IsField(p) {
		return 0, false
	}
	for a := 1; a < p; a++ {
		if orderIn(p, a) == p-1 {
			return a, true
		}
	}
	return 0, false
}

// DiscreteLog returns the least n >= 0 for which base to the power n is a, for two elements.
func DiscreteLog(p int, base int, a int) (int, bool) {
	if !areElements(p, base, a) {
		return 0, false
	}
	power := 1
	// The exponents 0..p-1 give all powers of base, those of 0 included.
	for n := range p {
		if power == a {
			return n, true
		}
		power = power * base % p
	}
	return 0, false
}

// SquareRoot returns the least element whose square is a.
func SquareRoot(p int, a int) (int, bool) {
	if !areElements(p, a) {
		return 0, false
	}
	for x := range p {
		if x*x%p == a {
			return x, true
		}
	}
	return 0, false
}

// QuadraticRoots returns all elements x with a x^2 + b x + c = 0, increasing, for elements a, b and c; a may be 0.
func QuadraticRoots(p int, a int, b int, c int) ([]int, bool) {
	if !areElements(p, a, b, c) {
		return nil, false
	}
	var roots []int
	for x := range p {
		if ((a*x+b)*x+c)%p == 0 {
			roots = append(roots, x)
		}
	}
	return roots, true
}

// areElements reports whether p is a field and all values are elements of it.
func areElements(p int, values ...int) bool {
	if !IsField(p) {
		return false
	}
	for _, v := range values {
		if v < 0 || v >= p {
			return false
		}
	}
	return true
}

// inverseIn returns the inverse of an element a other than 0 of the field p.
func inverseIn(p int, a int) int {
	// The power p-1 of a is 1, by Fermat's little theorem.
	return powerIn(p, a, p-2)
}

// powerIn returns a to the power n, for an element a of the field p and n >= 0.
func powerIn(p int, a int, n int) int {
	result := 1
	for ; n > 0; n /= 2 {
		if n%2 == 1 {
			result = result * a % p
		}
		a = a * a % p
	}
	return result
}

// orderIn returns the order of an element a other than 0 of the field p; for 0 it would not end.
func orderIn(p int, a int) int {
	n := 1
	for power := a; power != 1; power = power * a % p {
		n++
	}
	return n
}
