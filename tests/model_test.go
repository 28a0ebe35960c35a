package tests

import (
	"math"
	"testing"

	"loop.example/g01323/impl"
)

// The model works with lists of arguments, not with rows as bits, so that it shares no shortcuts
// with the program.

func allArguments(n int64) [][]int64 {
	lists := [][]int64{{}}
	for range n {
		var longer [][]int64
		for _, v := range []int64{0, 1} {
			for _, list := range lists {
				longer = append(longer, append(append([]int64{}, list...), v))
			}
		}
		lists = longer
	}
	return lists
}

func rowOf(arguments []int64) int64 {
	row, power := int64(0), int64(1)
	for _, v := range arguments {
		row += v * power
		power *= 2
	}
	return row
}

func modelValue(f impl.Func, arguments []int64) int64 {
	bits := f.Bits
	for range rowOf(arguments) {
		bits /= 2
	}
	return bits % 2
}

func modelFunc(n int64, value func(arguments []int64) int64) impl.Func {
	f, power := impl.Func{Arity: n}, int64(1)
	for _, arguments := range allArguments(n) {
		f.Bits += value(arguments) * power
		power *= 2
	}
	return f
}

func modelEssential(f impl.Func) []int64 {
	var essential []int64
	for i := range f.Arity {
		for _, arguments := range allArguments(f.Arity) {
			if arguments[i] == 0 && modelValue(f, arguments) != modelValue(f, withArgument(arguments, i, 1)) {
				essential = append(essential, i)
				break
			}
		}
	}
	return essential
}

func withArgument(arguments []int64, i int64, v int64) []int64 {
	changed := append([]int64{}, arguments...)
	changed[i] = v
	return changed
}

func othersOf(arguments []int64) []int64 {
	var others []int64
	for _, v := range arguments {
		others = append(others, 1-v)
	}
	return others
}

func allEqual(n int64, v int64) []int64 {
	var arguments []int64
	for range n {
		arguments = append(arguments, v)
	}
	return arguments
}

func modelSelfDual(f impl.Func) bool {
	for _, arguments := range allArguments(f.Arity) {
		if modelValue(f, arguments) == modelValue(f, othersOf(arguments)) {
			return false
		}
	}
	return true
}

func modelMonotone(f impl.Func) bool {
	for _, arguments := range allArguments(f.Arity) {
		for i := range f.Arity {
			if arguments[i] == 0 && modelValue(f, arguments) > modelValue(f, withArgument(arguments, i, 1)) {
				return false
			}
		}
	}
	return true
}

// modelAffine has the affine functions of the arity n, made of all choices of c and the a(i).
func modelAffine(n int64) map[impl.Func]bool {
	affine := map[impl.Func]bool{}
	for _, choice := range allArguments(n + 1) {
		f := modelFunc(n, func(arguments []int64) int64 {
			sum := choice[n]
			for i, v := range arguments {
				sum += choice[i] * v
			}
			return sum % 2
		})
		affine[f] = true
	}
	return affine
}

func modelInClass(f impl.Func, k int64, affine map[impl.Func]bool) bool {
	switch k {
	case 0:
		return modelValue(f, allEqual(f.Arity, 0)) == 0
	case 1:
		return modelValue(f, allEqual(f.Arity, 1)) == 1
	case 2:
		return modelSelfDual(f)
	case 3:
		return modelMonotone(f)
	}
	return affine[f]
}

func modelClassRow(f impl.Func, affine map[impl.Func]bool) []int64 {
	var row []int64
	for k := range int64(5) {
		v := int64(0)
		if modelInClass(f, k, affine) {
			v = 1
		}
		row = append(row, v)
	}
	return row
}

func permutationsOf(n int64) [][]int64 {
	lists := [][]int64{{}}
	for i := range n {
		var longer [][]int64
		for _, list := range lists {
			for place := 0; place <= len(list); place++ {
				next := append([]int64{}, list[:place]...)
				next = append(next, i)
				longer = append(longer, append(next, list[place:]...))
			}
		}
		lists = longer
	}
	return lists
}

func funcsOf(n int64, step int64) []impl.Func {
	bitsCount := int64(1) << (int64(1) << n)
	var list []impl.Func
	for bits := int64(0); bits < bitsCount; bits += step {
		list = append(list, impl.Func{Arity: n, Bits: bits})
	}
	return list
}

// smallAndSomeLarge has all functions of at most three variables, and some of four; the step is a
// prime, so that no row is the same in all of these.
func smallAndSomeLarge() []impl.Func {
	var list []impl.Func
	for n := range int64(4) {
		list = append(list, funcsOf(n, 1)...)
	}
	list = append(list, funcsOf(4, 251)...)
	return append(list, impl.Func{Arity: 4, Bits: 65535})
}

func allFuncs() []impl.Func {
	var list []impl.Func
	for n := range int64(5) {
		list = append(list, funcsOf(n, 1)...)
	}
	return list
}

func brokenFuncs() []impl.Func {
	return []impl.Func{
		{Arity: -1, Bits: 0},
		{Arity: 5, Bits: 0},
		{Arity: 5, Bits: 1},
		{Arity: 0, Bits: 2},
		{Arity: 1, Bits: 4},
		{Arity: 2, Bits: 16},
		{Arity: 3, Bits: 256},
		{Arity: 4, Bits: 65536},
		{Arity: 0, Bits: -1},
		{Arity: 4, Bits: -1},
		{Arity: 2, Bits: math.MinInt64},
		{Arity: 2, Bits: math.MaxInt64},
		{Arity: 63, Bits: 0},
		{Arity: 64, Bits: 1},
		{Arity: math.MaxInt64, Bits: math.MaxInt64},
		{Arity: math.MinInt64, Bits: 0},
		{Arity: 1 << 32, Bits: 0},
	}
}

func parsed(t *testing.T, text string) impl.Func {
	t.Helper()
	f, code := impl.ParseFunc(text)
	if code != impl.ErrNone {
		t.Fatalf("ParseFunc(%q): code %d", text, code)
	}
	return f
}

// wantFunc returns a check of a call that returns a function and a code.
func wantFunc(t *testing.T, call string, want impl.Func, wantCode int64) func(impl.Func, int64) {
	t.Helper()
	return func(got impl.Func, code int64) {
		t.Helper()
		if got != want || code != wantCode {
			t.Errorf("%s = %v, %d, want %v, %d", call, got, code, want, wantCode)
		}
	}
}
