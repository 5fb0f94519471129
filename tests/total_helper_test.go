package tests

import (
	"math/rand/v2"
	"reflect"
	"testing"
)

// This file checks P35 for functions with arguments and results of any types, of which the last result tells whether a call succeeds.

// totalCall is a function with odd arguments for each parameter, and with lists of arguments to give it together; succeeds tells for which ones it is to succeed.
type totalCall struct {
	name     string
	function any
	odd      [][]any
	together [][]any
	succeeds func(x []any) bool
}

// mostChoices is the greatest number of ways to choose odd arguments that are all tried; of more ways, as many are tried at random.
const mostChoices = 20000

// each returns the elements of a list as arguments.
func each[T any](list []T) []any {
	arguments := make([]any, len(list))
	for i, x := range list {
		arguments[i] = x
	}
	return arguments
}

// eachChoice calls check with arguments that f takes.
func (f totalCall) eachChoice(check func(x []any)) {
	for _, x := range f.together {
		check(x)
	}
	ways := 1
	for _, list := range f.odd {
		ways *= len(list)
	}
	if len(f.odd) == 0 || ways == 0 {
		return
	}
	source := rand.New(rand.NewPCG(35, 35))
	for i := range min(ways, mostChoices) {
		way := i
		if ways > mostChoices {
			way = source.IntN(ways)
		}
		x := make([]any, len(f.odd))
		for j, list := range f.odd {
			x[j] = list[way%len(list)]
			way /= len(list)
		}
		check(x)
	}
}

// results returns what f returns, and whether the call succeeds.
func (f totalCall) results(x []any) ([]reflect.Value, bool) {
	values := make([]reflect.Value, len(x))
	for i, argument := range x {
		values[i] = reflect.ValueOf(argument)
	}
	results := reflect.ValueOf(f.function).Call(values)
	return results, results[len(results)-1].Bool()
}

// checkTotal checks that f succeeds exactly where it is to succeed, and that its results are zero where it fails.
func (f totalCall) checkTotal(t *testing.T) {
	t.Helper()
	succeeded := 0
	f.eachChoice(func(x []any) {
		results, ok := f.results(x)
		for _, result := range results {
			if !ok && !isZeroValue(result) {
				t.Fatal(f.name, "fails with a result", x, result)
			}
		}
		if ok != f.succeeds(x) {
			t.Fatal(f.name, "succeeds:", ok, x)
		}
		if ok {
			succeeded++
		}
	})
	if succeeded == 0 {
		t.Error(f.name, "succeeds for no arguments")
	}
}

// checkMemory checks that f modifies no argument, hands none out and keeps none, and that no two slices of its results share memory.
func (f totalCall) checkMemory(t *testing.T) {
	t.Helper()
	f.eachChoice(func(x []any) {
		if size(x) > 3000 {
			return
		}
		guarded := make([]any, len(x))
		for i, argument := range x {
			guarded[i] = guardedValue(reflect.ValueOf(argument)).Interface()
		}
		plain, _ := f.results(x)
		first, _ := f.results(guarded)
		if !areSameValues(first, plain) {
			t.Fatal(f.name, "depends on a capacity or an earlier call", x)
		}
		if sharesMemory(first, guarded) {
			t.Fatal(f.name, "has results that share memory", x)
		}
		wipe(first)
		for i, argument := range x {
			if !isGuardedValue(reflect.ValueOf(guarded[i]), reflect.ValueOf(argument)) {
				t.Fatal(f.name, "changes its arguments", x, guarded)
			}
		}
		if again, _ := f.results(guarded); !areSameValues(again, plain) {
			t.Fatal(f.name, "depends on earlier results", x)
		}
	})
}

// partsOf returns the fields of a struct, the elements of a slice or an array, and nothing of other values.
func partsOf(v reflect.Value) []reflect.Value {
	var parts []reflect.Value
	switch v.Kind() {
	case reflect.Struct:
		for i := range v.NumField() {
			parts = append(parts, v.Field(i))
		}
	case reflect.Slice, reflect.Array:
		for i := range v.Len() {
			parts = append(parts, v.Index(i))
		}
	}
	return parts
}

// isZeroValue does not tell nil from empty slices.
func isZeroValue(v reflect.Value) bool {
	switch v.Kind() {
	case reflect.Slice:
		return v.Len() == 0
	case reflect.Struct, reflect.Array:
		for _, part := range partsOf(v) {
			if !isZeroValue(part) {
				return false
			}
		}
		return true
	}
	return v.IsZero()
}

// areSameValues does not tell nil from empty slices.
func areSameValues(a, b []reflect.Value) bool {
	for i, v := range a {
		w := b[i]
		if v.Kind() == reflect.Slice && v.Len() != w.Len() {
			return false
		}
		parts := partsOf(v)
		if !areSameValues(parts, partsOf(w)) {
			return false
		}
		isWhole := v.Kind() != reflect.Slice && v.Kind() != reflect.Struct && v.Kind() != reflect.Array
		if isWhole && !v.Equal(w) {
			return false
		}
	}
	return true
}

// size returns the number of elements in the slices of values, or a part of it that is great.
func size(x []any) int {
	var count func(v reflect.Value) int
	count = func(v reflect.Value) int {
		if v.Kind() == reflect.Slice && v.Len() > 3000 {
			return v.Len()
		}
		n := 1
		for _, part := range partsOf(v) {
			n += count(part)
		}
		return n
	}
	n := 0
	for _, argument := range x {
		n += count(reflect.ValueOf(argument))
	}
	return n
}

// guardOf returns a value that stands in capacities behind lengths.
func guardOf(kind reflect.Type) reflect.Value {
	v := reflect.New(kind).Elem()
	switch kind.Kind() {
	case reflect.Int:
		v.SetInt(guard)
	case reflect.String:
		v.SetString("guard")
	case reflect.Bool:
		v.SetBool(true)
	case reflect.Struct:
		for i := range v.NumField() {
			v.Field(i).Set(guardOf(v.Field(i).Type()))
		}
	case reflect.Slice:
		v.Set(reflect.MakeSlice(kind, 0, 0))
	}
	return v
}

// guardedValue returns a copy with a guard in the capacity behind the length of each slice.
func guardedValue(v reflect.Value) reflect.Value {
	guarded := reflect.New(v.Type()).Elem()
	switch v.Kind() {
	case reflect.Slice:
		n := v.Len()
		whole := reflect.MakeSlice(v.Type(), n+1, n+1)
		for i := range n {
			whole.Index(i).Set(guardedValue(v.Index(i)))
		}
		whole.Index(n).Set(guardOf(v.Type().Elem()))
		guarded.Set(whole.Slice(0, n))
	case reflect.Struct:
		for i := range v.NumField() {
			guarded.Field(i).Set(guardedValue(v.Field(i)))
		}
	default:
		guarded.Set(v)
	}
	return guarded
}

// isGuardedValue reports whether v is still a guarded copy of want.
func isGuardedValue(v, want reflect.Value) bool {
	if v.Kind() == reflect.Slice {
		n := want.Len()
		behind := v.Slice(0, n+1).Index(n)
		if v.Len() != n || !areSameValues([]reflect.Value{behind}, []reflect.Value{guardOf(v.Type().Elem())}) {
			return false
		}
	}
	parts, wanted := partsOf(v), partsOf(want)
	for i, part := range parts {
		if !isGuardedValue(part, wanted[i]) {
			return false
		}
	}
	return len(parts) > 0 || areSameValues([]reflect.Value{v}, []reflect.Value{want})
}

// slicesIn returns all slices in a value that have a capacity.
func slicesIn(v reflect.Value) []reflect.Value {
	var found []reflect.Value
	if v.Kind() == reflect.Slice && v.Cap() > 0 {
		found = append(found, v)
	}
	for _, part := range partsOf(v) {
		found = append(found, slicesIn(part)...)
	}
	return found
}

// sharesMemory reports whether two slices of some results share memory, or one of them and one of some arguments.
func sharesMemory(results []reflect.Value, x []any) bool {
	var own, others [][2]uintptr
	end := func(v reflect.Value) [2]uintptr {
		return [2]uintptr{v.Pointer(), v.Pointer() + uintptr(v.Cap())*v.Type().Elem().Size()}
	}
	for _, result := range results {
		for _, v := range slicesIn(result) {
			own = append(own, end(v))
		}
	}
	for _, argument := range x {
		for _, v := range slicesIn(reflect.ValueOf(argument)) {
			others = append(others, end(v))
		}
	}
	for i, a := range own {
		for _, b := range append(others, own[:i]...) {
			if a[0] < b[1] && b[0] < a[1] {
				return true
			}
		}
	}
	return false
}

// wipe sets all elements of the slices in some results to zero, in their capacities, too.
func wipe(results []reflect.Value) {
	for _, result := range results {
		for _, v := range slicesIn(result) {
			whole := v.Slice(0, v.Cap())
			for i := range whole.Len() {
				whole.Index(i).SetZero()
			}
		}
	}
}

// checkCalls checks some functions.
func checkCalls(t *testing.T, calls []totalCall) {
	for _, f := range calls {
		f.checkTotal(t)
		f.checkMemory(t)
	}
}
