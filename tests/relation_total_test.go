package tests

import (
	"math"
	"slices"
	"testing"

	"loop.example/g01073/impl"
)

// relationArguments are the arguments of a function of chapter 4; each function takes some of them.
type relationArguments struct {
	p    int
	a, b impl.Relation
	x, y []int
}

// relationCall is a function of chapter 4 that takes at least one relation; mayFail tells that it may fail for valid arguments.
type relationCall struct {
	name            string
	takesB, takesXY bool
	mayFail         bool
	isValid         func(v relationArguments) bool
	call            func(v relationArguments) rowsResults
}

func relationResult(r impl.Relation, ok bool) rowsResults {
	return rowsResults{matrices: []impl.Matrix{{Cols: r.Left, Rows: r.Basis}}, number: r.Right, ok: ok}
}

// isRelation follows the definition of a relation.
func isRelation(p int, r impl.Relation) bool {
	for _, side := range []int{r.Left, r.Right} {
		if side < 0 || side > maxSide {
			return false
		}
	}
	return isSpace(p, impl.Matrix{Cols: r.Left + r.Right, Rows: r.Basis})
}

func isOneRelation(v relationArguments) bool { return isRelation(v.p, v.a) }

func areTwoRelations(v relationArguments) bool { return isRelation(v.p, v.a) && isRelation(v.p, v.b) }

// isGenerator reports whether v.a has sides and pairs for RelationFrom.
func isGenerator(v relationArguments) bool {
	return isRelation(v.p, relationOf(v.a.Left, v.a.Right)) && isSpan(rowsArguments{p: v.p, n: v.a.Left + v.a.Right, a: impl.Matrix{Rows: v.a.Basis}})
}

// relationMakers returns the functions that take no relation.
func relationMakers() []rowsCall {
	return []rowsCall{
		{name: "IdentityRelation", firsts: noMatrices, takesN: true,
			isValid: func(x rowsArguments) bool { return x.n >= 0 && x.n <= 12 },
			call:    func(x rowsArguments) rowsResults { return relationResult(impl.IdentityRelation(x.n)) }},
		{name: "MatrixRelation", firsts: oddMatrices,
			isValid: func(x rowsArguments) bool { return isMatrix(x.p, x.a) && len(x.a.Rows)+x.a.Cols <= maxSide },
			call:    func(x rowsArguments) rowsResults { return relationResult(impl.MatrixRelation(x.p, x.a)) }},
	}
}

func relationCalls() []relationCall {
	return []relationCall{
		{name: "RelationFrom", isValid: isGenerator,
			call: func(v relationArguments) rowsResults {
				return relationResult(impl.RelationFrom(v.p, v.a.Left, v.a.Right, v.a.Basis))
			}},
		{name: "ComposeRelations", takesB: true,
			isValid: func(v relationArguments) bool {
				return areTwoRelations(v) && v.a.Right == v.b.Left && v.a.Left+v.b.Right <= maxSide
			},
			call: func(v relationArguments) rowsResults { return relationResult(impl.ComposeRelations(v.p, v.a, v.b)) }},
		{name: "TensorRelations", takesB: true,
			isValid: func(v relationArguments) bool {
				return areTwoRelations(v) && v.a.Left+v.a.Right+v.b.Left+v.b.Right <= maxSide
			},
			call: func(v relationArguments) rowsResults { return relationResult(impl.TensorRelations(v.p, v.a, v.b)) }},
		{name: "ConverseRelation", isValid: isOneRelation,
			call: func(v relationArguments) rowsResults { return relationResult(impl.ConverseRelation(v.p, v.a)) }},
		{name: "OrthogonalRelation", isValid: isOneRelation,
			call: func(v relationArguments) rowsResults { return relationResult(impl.OrthogonalRelation(v.p, v.a)) }},
		{name: "HasPair", takesXY: true,
			isValid: func(v relationArguments) bool {
				return isOneRelation(v) && len(v.x) == v.a.Left && len(v.y) == v.a.Right && isElementList(v.p, v.x) && isElementList(v.p, v.y)
			},
			call: func(v relationArguments) rowsResults { return truthResult(impl.HasPair(v.p, v.a, v.x, v.y)) }},
		{name: "IncludesRelation", takesB: true,
			isValid: func(v relationArguments) bool {
				return areTwoRelations(v) && v.a.Left == v.b.Left && v.a.Right == v.b.Right
			},
			call: func(v relationArguments) rowsResults { return truthResult(impl.IncludesRelation(v.p, v.a, v.b)) }},
		{name: "DomainOf", isValid: isOneRelation,
			call: func(v relationArguments) rowsResults { return spaceResult(impl.DomainOf(v.p, v.a)) }},
		{name: "RangeOf", isValid: isOneRelation,
			call: func(v relationArguments) rowsResults { return spaceResult(impl.RangeOf(v.p, v.a)) }},
		{name: "IsTotal", isValid: isOneRelation,
			call: func(v relationArguments) rowsResults { return truthResult(impl.IsTotal(v.p, v.a)) }},
		{name: "IsSingleValued", isValid: isOneRelation,
			call: func(v relationArguments) rowsResults { return truthResult(impl.IsSingleValued(v.p, v.a)) }},
		{name: "FunctionOf", mayFail: true, isValid: isOneRelation,
			call: func(v relationArguments) rowsResults { return matrixResult(impl.FunctionOf(v.p, v.a)) }},
	}
}

// oddSides returns numbers that are the sides of a relation, or are not, among them some with a sum that is too great for an int.
func oddSides() [][2]int {
	return [][2]int{
		{0, 0}, {0, 1}, {1, 0}, {1, 1}, {0, 2}, {2, 0}, {1, 2}, {2, 1}, {12, 12}, {12, 13}, {13, 12}, {0, maxSide}, {maxSide, 0}, {maxSide, maxSide}, {0, maxSide + 1}, {maxSide + 1, 0}, {-1, 0}, {-1, 1}, {-1, 2}, {2, -1}, {3, -1}, {25, -1}, {-2, 26},
		{math.MaxInt, math.MaxInt}, {math.MaxInt, 1}, {1, math.MaxInt}, {math.MinInt, math.MinInt}, {math.MinInt, math.MaxInt}, {math.MinInt + 2, math.MaxInt}, {math.MinInt, 0}, {1 << 62, 1 << 62}, {1 << 32, 0}, {0, math.MaxInt},
	}
}

// oddRelations returns relations over p and values that are none.
func oddRelations(p int) []impl.Relation {
	var relations []impl.Relation
	for _, sides := range oddSides() {
		relations = append(relations, relationOf(sides[0], sides[1]), relationOf(sides[0], sides[1], []int{1, 1}))
	}
	for _, m := range oddSpaces(p) {
		for _, left := range []int{0, m.Cols / 2} {
			relations = append(relations, relationOf(left, m.Cols-left, m.Rows...))
		}
	}
	return append(relations, relationOf(1, 1, zeroMatrix(48, 2).Rows...), relationOf(1, 1, zeroMatrix(49, 2).Rows...), relationOf(0, 0, zeroMatrix(48, 0).Rows...), relationOf(0, 0, zeroMatrix(49, 0).Rows...))
}

// eachArguments calls check with all arguments that f takes.
func (f relationCall) eachArguments(p int, check func(v relationArguments)) {
	seconds, lists := []impl.Relation{{}}, [][]int{nil}
	if f.takesB {
		seconds = oddRelations(p)
	}
	if f.takesXY {
		lists = oddLists(p)
	}
	for _, a := range oddRelations(p) {
		for _, b := range seconds {
			for _, x := range lists {
				for _, y := range lists {
					check(relationArguments{p, a, b, x, y})
				}
			}
		}
	}
}

func TestRelationFunctionsAreTotal(t *testing.T) {
	for _, f := range relationMakers() {
		checkTotal(t, f)
	}
	for _, p := range oddFields() {
		for _, r := range oddRelations(p) {
			if impl.IsRelation(p, r) != isRelation(p, r) {
				t.Fatal("IsRelation", p, r)
			}
		}
		for _, f := range relationCalls() {
			f.eachArguments(p, func(v relationArguments) {
				r := f.call(v)
				if !r.ok && !r.isZero() {
					t.Fatal(f.name, "fails with a result", v, r)
				}
				if valid := f.isValid(v); r.ok && !valid || !r.ok && valid && !f.mayFail {
					t.Fatal(f.name, "of arguments that are valid:", valid, v, r)
				}
			})
		}
	}
}

// guardedRelation returns a copy with guards in the capacities behind the lengths.
func guardedRelation(r impl.Relation) impl.Relation {
	return relationOf(r.Left, r.Right, guardedMatrix(impl.Matrix{Rows: r.Basis}).Rows...)
}

// isGuardedRelation reports whether r is still a guarded copy of want.
func isGuardedRelation(r, want impl.Relation) bool {
	return r.Left == want.Left && r.Right == want.Right && isGuardedMatrix(impl.Matrix{Rows: r.Basis}, impl.Matrix{Rows: want.Basis})
}

// checkRelationMemory checks that a function modifies no argument, hands none out and keeps none.
func checkRelationMemory(t *testing.T, f relationCall, v relationArguments) {
	if max(len(v.a.Basis), len(v.b.Basis), len(v.x), len(v.y)) > 100 {
		return
	}
	guarded := relationArguments{v.p, guardedRelation(v.a), guardedRelation(v.b), guardedList(v.x), guardedList(v.y)}
	first := f.call(guarded)
	if !sameResults(first, f.call(v)) {
		t.Fatal(f.name, "depends on a capacity or an earlier call", v)
	}
	if !first.overwrite() {
		t.Fatal(f.name, "has results that share memory", v)
	}
	if !isGuardedRelation(guarded.a, v.a) || !isGuardedRelation(guarded.b, v.b) || !isGuardedList(guarded.x, v.x) || !isGuardedList(guarded.y, v.y) {
		t.Fatal(f.name, "changes its arguments or hands them out", v, guarded)
	}
	if !sameResults(f.call(guarded), f.call(v)) {
		t.Fatal(f.name, "depends on earlier results", v)
	}
}

func TestRelationFunctionsShareNoMemory(t *testing.T) {
	for _, f := range relationMakers() {
		checkMemory(t, f)
	}
	for _, f := range relationCalls() {
		for _, p := range []int{2, 5, 97} {
			f.eachArguments(p, func(v relationArguments) { checkRelationMemory(t, f, v) })
		}
		for _, c := range relationCases() {
			checkRelationMemory(t, f, relationArguments{c.p, c.r, c.r, zeros(c.r.Left), zeros(c.r.Right)})
		}
	}
	for _, c := range chainCases() {
		for _, f := range relationCalls() {
			checkRelationMemory(t, f, relationArguments{c.p, c.a, c.b, zeros(c.a.Left), zeros(c.a.Right)})
		}
	}
}

// TestRelationArgumentsMayBeEqual gives the same relation twice, and lists that share memory with it.
func TestRelationArgumentsMayBeEqual(t *testing.T) {
	row := []int{1, 2}
	r := relationOf(1, 1, row)
	if c, ok := impl.ComposeRelations(5, r, r); !ok || !sameRelation(c, relationOf(1, 1, []int{1, 4})) {
		t.Error("composition", c, ok)
	}
	if c, ok := impl.TensorRelations(5, r, r); !ok || !sameRelation(c, relationOf(2, 2, []int{1, 0, 2, 0}, []int{0, 1, 0, 2})) {
		t.Error("tensor", c, ok)
	}
	if is, ok := impl.HasPair(5, r, row[:1], row[1:]); !is || !ok {
		t.Error("pair", is, ok)
	}
	if c, ok := impl.RelationFrom(5, 1, 1, [][]int{row, row}); !ok || !sameRelation(c, r) {
		t.Error("generated relation", c, ok)
	}
	if !slices.Equal(row, []int{1, 2}) {
		t.Error("the row is modified", row)
	}
}
