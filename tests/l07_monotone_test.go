package tests

import (
	"fmt"
	"math"
	"runtime"
	"slices"
	"sync"
	"testing"
	"time"

	"loop.example/g01323/impl"
)

// The functions of this chapter are held against their definitions for all functions of all arities; what
// these say of two rows is looked up in the tables of rowModel.

var (
	monotoneCounts  = []int64{2, 3, 6, 20, 168}
	thresholdCounts = []int64{2, 4, 14, 104, 1882}
	regularCounts   = []int64{2, 3, 6, 20, 150}
)

// isMonotoneInRows compares each row with all rows above it.
func isMonotoneInRows(values []int64, rows rowModel) bool {
	for r, value := range values {
		for s, above := range values {
			if rows.within[r][s] && value > above {
				return false
			}
		}
	}
	return true
}

// modelLeast has those of the rows with a mark below which there is no other one with a mark.
func modelLeast(marks []int64, rows rowModel) []int64 {
	var least []int64
	for r, mark := range marks {
		isLeast := mark == 1
		for s, other := range marks {
			if s != r && other == 1 && rows.within[s][r] {
				isLeast = false
			}
		}
		if isLeast {
			least = append(least, int64(r))
		}
	}
	return least
}

func modelGreatestFalse(values []int64, rows rowModel) []int64 {
	var greatest []int64
	for r, value := range values {
		isGreatest := value == 0
		for s, other := range values {
			if s != r && other == 0 && rows.within[r][s] {
				isGreatest = false
			}
		}
		if isGreatest {
			greatest = append(greatest, int64(r))
		}
	}
	return greatest
}

// modelMade adds the powers of two at all rows above one of a list.
func modelMade(n int64, list []int64, rows rowModel) impl.Func {
	f, power := impl.Func{Arity: n}, int64(1)
	for r := range rows.size {
		if slices.ContainsFunc(list, func(below int64) bool { return rows.within[below][r] }) {
			f.Bits += power
		}
		power *= 2
	}
	return f
}

// modelTransversals marks the rows that have a variable in common with each of a list.
func modelTransversals(list []int64, rows rowModel) []int64 {
	marks := make([]int64, len(rows.size))
	for r := range marks {
		if !slices.ContainsFunc(list, func(row int64) bool { return rows.common[r][row] == 0 }) {
			marks[r] = 1
		}
	}
	return modelLeast(marks, rows)
}

func modelAsStrong(f impl.Func, i, j int64) bool {
	for _, arguments := range allArguments(f.Arity) {
		if arguments[i] == 1 || arguments[j] == 1 {
			continue
		}
		if modelValue(f, withArgument(arguments, i, 1)) < modelValue(f, withArgument(arguments, j, 1)) {
			return false
		}
	}
	return true
}

func modelRegular(f impl.Func) bool {
	for i := range f.Arity {
		for j := range f.Arity {
			if !modelAsStrong(f, i, j) && !modelAsStrong(f, j, i) {
				return false
			}
		}
	}
	return modelMonotone(f)
}

// modelWeighing is a weighing of some function; lists counts those lists of weights that have its sum.
type modelWeighing struct {
	sum     int64
	weights []int64
	bound   int64
	lists   int
}

// modelWeighings goes the other way: it looks at all weights with all bounds, and keeps for each function
// that is made the least one. Bounds of -17 and less make what -16 makes.
var modelWeighings = sync.OnceValue(func() map[impl.Func]modelWeighing {
	least := map[impl.Func]modelWeighing{}
	for n := range int64(5) {
		for _, weights := range modelWeights(n) {
			for bound := int64(-17); bound <= 20; bound++ {
				keepLeast(least, weighed(n, weights, bound), weights, bound)
			}
		}
	}
	return least
})

// modelWeights has all lists of n weights, not in lexicographic order.
func modelWeights(n int64) [][]int64 {
	lists := [][]int64{{}}
	for range n {
		var longer [][]int64
		for _, weight := range []int64{4, 3, 2, 1, 0, -4, -3, -2, -1} {
			for _, list := range lists {
				longer = append(longer, append(slices.Clone(list), weight))
			}
		}
		lists = longer
	}
	return lists
}

func weighed(n int64, weights []int64, bound int64) impl.Func {
	f, power := impl.Func{Arity: n}, int64(1)
	for _, arguments := range argumentLists[n] {
		sum := int64(0)
		for i, v := range arguments {
			sum += v * weights[i]
		}
		if sum >= bound {
			f.Bits += power
		}
		power *= 2
	}
	return f
}

var argumentLists = [][][]int64{allArguments(0), allArguments(1), allArguments(2), allArguments(3), allArguments(4)}

func keepLeast(least map[impl.Func]modelWeighing, f impl.Func, weights []int64, bound int64) {
	sum := int64(0)
	for _, weight := range weights {
		sum += max(weight, -weight)
	}
	known, found := least[f]
	switch {
	case !found || sum < known.sum:
		least[f] = modelWeighing{sum, weights, bound, 1}
	case sum > known.sum:
	case slices.Equal(weights, known.weights):
		known.bound = max(bound, known.bound)
		least[f] = known
	case slices.Compare(weights, known.weights) < 0:
		least[f] = modelWeighing{sum, weights, bound, known.lists + 1}
	default:
		known.lists++
		least[f] = known
	}
}

// modelLevels gives nil for functions that have two values at rows of one size.
func modelLevels(values []int64, rows rowModel) []int64 {
	n := rows.size[len(rows.size)-1]
	levels := slices.Repeat([]int64{-1}, int(n)+1)
	for r, value := range values {
		size := rows.size[r]
		if levels[size] != -1 && levels[size] != value {
			return nil
		}
		levels[size] = value
	}
	return levels
}

// wantWeighing returns a check of a call of WeighingOf.
func wantWeighing(t *testing.T, f impl.Func, weights []int64, bound int64, wantCode int64) func([]int64, int64, int64) {
	t.Helper()
	return func(got []int64, gotBound int64, code int64) {
		t.Helper()
		if !slices.Equal(got, weights) || gotBound != bound || code != wantCode {
			t.Errorf("WeighingOf(%v) = %v, %d, %d, want %v, %d, %d", f, got, gotBound, code, weights, bound, wantCode)
		}
	}
}

// wantFuncs returns a check of a call that returns a list of functions and a code.
func wantFuncs(t *testing.T, call string, want []impl.Func, wantCode int64) func([]impl.Func, int64) {
	t.Helper()
	return func(got []impl.Func, code int64) {
		t.Helper()
		if !slices.Equal(got, want) || code != wantCode {
			t.Errorf("%s = %d functions, %v, %d, want %d, %v, %d", call, len(got), got, code, len(want), want, wantCode)
		}
	}
}

// wantCount returns a check of a call that returns a number and a code.
func wantCount(t *testing.T, call string, want int64, wantCode int64) func(int64, int64) {
	t.Helper()
	return func(got int64, code int64) {
		t.Helper()
		if got != want || code != wantCode {
			t.Errorf("%s = %d, %d, want %d, %d", call, got, code, want, wantCode)
		}
	}
}

func constantsOf(n int64) (zero impl.Func, one impl.Func) {
	return impl.Func{Arity: n}, modelFunc(n, func([]int64) int64 { return 1 })
}

func TestWeightLimit(t *testing.T) {
	if impl.MaxWeight != 4 {
		t.Errorf("MaxWeight is %d", impl.MaxWeight)
	}
}

func TestIsMonotone(t *testing.T) {
	counts := make([]int64, 5)
	eachFunc(t, func(f impl.Func, rows rowModel) {
		want := isMonotoneInRows(modelValues(f), rows)
		if want {
			counts[f.Arity]++
		}
		wantAnswer(t, "IsMonotone", f, want, impl.ErrNone)(impl.IsMonotone(f))
	})
	if !slices.Equal(counts, monotoneCounts) {
		t.Errorf("numbers of monotone functions: %v", counts)
	}
	cases := map[string]bool{
		"0:0": true, "0:1": true, "1:00": true, "1:11": true, "1:01": true, "1:10": false, "2:0001": true, "2:0111": true, "2:0110": false, "2:1011": false,
		"3:00010111": true, "3:00011011": false, "3:01101001": false, "4:0001000100011111": true, "4:1000000000000001": false, "4:0000000000000000": true, "4:1111111111111111": true,
	}
	for text, want := range cases {
		f := parsed(t, text)
		wantAnswer(t, "IsMonotone", f, want, impl.ErrNone)(impl.IsMonotone(f))
	}
}

func TestLeastTrueRows(t *testing.T) {
	eachFunc(t, func(f impl.Func, rows rowModel) {
		wantNumbers(t, "LeastTrueRows", f, modelLeast(modelValues(f), rows), impl.ErrNone)(impl.LeastTrueRows(f))
	})
	cases := map[string][]int64{
		"0:0": nil, "0:1": {0}, "1:00": nil, "1:11": {0}, "1:01": {1}, "1:10": {0}, "2:0000": nil, "2:1111": {0},
		"2:0111": {1, 2}, "2:0001": {3}, "2:0110": {1, 2}, "2:1001": {0}, "2:1011": {0}, "2:0101": {1}, "2:0011": {2},
		"3:00010111": {3, 5, 6}, "3:00011011": {3, 4}, "3:01101001": {1, 2, 4}, "3:00100001": {2},
		"4:0000000000000000": nil, "4:1111111111111111": {0}, "4:0000000000000001": {15}, "4:0110100110010110": {1, 2, 4, 8}, "4:0001011101111111": {3, 5, 6, 9, 10, 12}, "4:0000000100010110": {7, 11, 13, 14},
	}
	for text, want := range cases {
		f := parsed(t, text)
		wantNumbers(t, "LeastTrueRows", f, want, impl.ErrNone)(impl.LeastTrueRows(f))
	}
}

func TestGreatestFalseRows(t *testing.T) {
	eachFunc(t, func(f impl.Func, rows rowModel) {
		wantNumbers(t, "GreatestFalseRows", f, modelGreatestFalse(modelValues(f), rows), impl.ErrNone)(impl.GreatestFalseRows(f))
	})
	cases := map[string][]int64{
		"0:0": {0}, "0:1": nil, "1:00": {1}, "1:11": nil, "1:01": {0}, "1:10": {1}, "2:0000": {3}, "2:1111": nil,
		"2:0111": {0}, "2:0001": {1, 2}, "2:0110": {3}, "2:1001": {1, 2}, "2:1011": {1}, "2:0101": {2}, "2:0011": {1},
		"3:00010111": {1, 2, 4}, "3:00011011": {2, 5}, "3:01101001": {3, 5, 6}, "3:01111011": {5}, "3:10110111": {1, 4},
		"4:0000000000000000": {15}, "4:1111111111111111": nil, "4:0000000000000001": {7, 11, 13, 14}, "4:0001011101111111": {1, 2, 4, 8}, "4:0110100110010110": {15},
	}
	for text, want := range cases {
		f := parsed(t, text)
		wantNumbers(t, "GreatestFalseRows", f, want, impl.ErrNone)(impl.GreatestFalseRows(f))
	}
}

func TestRowsOfConstants(t *testing.T) {
	for n := range int64(5) {
		zero, one := constantsOf(n)
		wantNumbers(t, "LeastTrueRows", zero, nil, impl.ErrNone)(impl.LeastTrueRows(zero))
		wantNumbers(t, "LeastTrueRows", one, []int64{0}, impl.ErrNone)(impl.LeastTrueRows(one))
		wantNumbers(t, "GreatestFalseRows", zero, []int64{1<<n - 1}, impl.ErrNone)(impl.GreatestFalseRows(zero))
		wantNumbers(t, "GreatestFalseRows", one, nil, impl.ErrNone)(impl.GreatestFalseRows(one))
		wantNumbers(t, "TransversalsOf", zero, []int64{0}, impl.ErrNone)(impl.TransversalsOf(zero))
		wantNumbers(t, "TransversalsOf", one, nil, impl.ErrNone)(impl.TransversalsOf(one))
	}
}

// TestFuncOfRowsAgainstTheDefinition has all sets of rows: the true rows of functions are all of them.
func TestFuncOfRowsAgainstTheDefinition(t *testing.T) {
	eachFunc(t, func(f impl.Func, rows rowModel) {
		var list []int64
		for r, value := range modelValues(f) {
			if value == 1 {
				list = append(list, int64(r))
			}
		}
		want := modelMade(f.Arity, list, rows)
		call := fmt.Sprint("FuncOfRows ", f.Arity, list)
		wantFunc(t, call, want, impl.ErrNone)(impl.FuncOfRows(f.Arity, list))
		slices.Reverse(list)
		wantFunc(t, call+" backwards", want, impl.ErrNone)(impl.FuncOfRows(f.Arity, list))
		turned := slices.Concat(list[len(list)/2:], list[:len(list)/2])
		wantFunc(t, call+" turned", want, impl.ErrNone)(impl.FuncOfRows(f.Arity, turned))
		if len(list) <= 8 {
			wantFunc(t, call+" twice", want, impl.ErrNone)(impl.FuncOfRows(f.Arity, slices.Concat(list, turned)))
		}
	})
}

func TestFuncOfRows(t *testing.T) {
	cases := []struct {
		n    int64
		rows []int64
		want string
	}{
		{0, nil, "0:0"}, {0, []int64{}, "0:0"}, {0, []int64{0}, "0:1"}, {0, make([]int64, 16), "0:1"},
		{1, nil, "1:00"}, {1, []int64{0}, "1:11"}, {1, []int64{1}, "1:01"}, {1, []int64{1, 0}, "1:11"},
		{2, nil, "2:0000"}, {2, []int64{1, 2}, "2:0111"}, {2, []int64{2, 3, 1}, "2:0111"}, {2, []int64{3}, "2:0001"}, {2, []int64{1}, "2:0101"}, {2, []int64{2, 2}, "2:0011"},
		{3, []int64{6, 3, 5}, "3:00010111"}, {3, []int64{5}, "3:00000101"}, {3, slices.Repeat([]int64{5}, 16), "3:00000101"}, {3, []int64{4, 3, 7, 3}, "3:00011111"}, {3, []int64{7, 6, 5, 4, 3, 2, 1, 0}, "3:11111111"},
		{4, nil, "4:0000000000000000"}, {4, []int64{15}, "4:0000000000000001"}, {4, []int64{8, 4, 2, 1}, "4:0111111111111111"}, {4, []int64{12, 3}, "4:0001000100011111"},
		{4, []int64{15, 14, 13, 12, 11, 10, 9, 8, 7, 6, 5, 4, 3, 2, 1, 0}, "4:1111111111111111"}, {4, append([]int64{9}, slices.Repeat([]int64{15}, 15)...), "4:0000000001010101"},
	}
	for _, c := range cases {
		wantFunc(t, fmt.Sprint("FuncOfRows ", c.n, c.rows), parsed(t, c.want), impl.ErrNone)(impl.FuncOfRows(c.n, c.rows))
	}
}

func TestFuncOfRowsErrors(t *testing.T) {
	wantNone := func(n int64, rows []int64) {
		t.Helper()
		wantFunc(t, fmt.Sprintf("FuncOfRows of %d and %d rows, %.70s", n, len(rows), fmt.Sprint(rows)), impl.Func{}, impl.ErrRange)(impl.FuncOfRows(n, rows))
	}
	for n := range int64(5) {
		for _, length := range []int{17, 18, 32, 1 << 16} {
			wantNone(n, make([]int64, length))
			wantNone(n, slices.Repeat([]int64{1<<n - 1}, length))
		}
		for _, row := range []int64{-1, -2, 1 << n, 1<<n + 1, 1 << 32, math.MaxInt64, math.MinInt64} {
			wantNone(n, []int64{row})
			for place := range 16 {
				rows := make([]int64, 16)
				rows[place] = row
				wantNone(n, rows)
			}
			wantNone(n, slices.Repeat([]int64{row}, 17))
		}
	}
	for _, n := range append(extremes, -2, 6, math.MinInt64+1) {
		if n < 0 || n > 4 {
			for _, rows := range [][]int64{nil, {0}, {1}, {-1}, {16}, {31}, make([]int64, 16), make([]int64, 17)} {
				wantNone(n, rows)
			}
		}
	}
}

// TestMonotoneFuncsAreMadeByTheirLeastTrueRows also has functions that are not monotone: their rows make the
// monotone function that is 1 at all rows above true ones.
func TestMonotoneFuncsAreMadeByTheirLeastTrueRows(t *testing.T) {
	eachFunc(t, func(f impl.Func, rows rowModel) {
		least, code := impl.LeastTrueRows(f)
		made, madeCode := impl.FuncOfRows(f.Arity, least)
		monotone, _ := impl.IsMonotone(f)
		if code != impl.ErrNone || madeCode != impl.ErrNone || (made == f) != monotone || made.Bits|f.Bits != made.Bits {
			t.Errorf("FuncOfRows(%d, %v) = %v, %d, %d, of LeastTrueRows of %v, monotone: %v", f.Arity, least, made, madeCode, code, f, monotone)
		}
		again, _ := impl.LeastTrueRows(made)
		if is, _ := impl.IsMonotone(made); !is || !slices.Equal(again, least) {
			t.Errorf("LeastTrueRows(%v) = %v, want %v", made, again, least)
		}
	})
}

func TestMonotoneFuncs(t *testing.T) {
	for n := range int64(5) {
		var want []impl.Func
		for _, f := range funcsOf(n, 1) {
			if modelMonotone(f) {
				want = append(want, f)
			}
		}
		if int64(len(want)) != monotoneCounts[n] {
			t.Fatalf("the model has %d monotone functions of the arity %d", len(want), n)
		}
		wantFuncs(t, fmt.Sprintf("MonotoneFuncs(%d)", n), want, impl.ErrNone)(impl.MonotoneFuncs(n))
		wantCount(t, fmt.Sprintf("CountMonotone(%d)", n), monotoneCounts[n], impl.ErrNone)(impl.CountMonotone(n))
	}
	cases := [][]string{
		{"0:0", "0:1"},
		{"1:00", "1:01", "1:11"},
		{"2:0000", "2:0001", "2:0101", "2:0011", "2:0111", "2:1111"},
	}
	for n, texts := range cases {
		wantFuncs(t, fmt.Sprintf("MonotoneFuncs(%d)", n), funcsByText(t, texts...), impl.ErrNone)(impl.MonotoneFuncs(int64(n)))
	}
}

func TestTransversalsOf(t *testing.T) {
	monotone := 0
	eachFunc(t, func(f impl.Func, rows rowModel) {
		values := modelValues(f)
		if !isMonotoneInRows(values, rows) {
			wantNumbers(t, "TransversalsOf", f, nil, impl.ErrState)(impl.TransversalsOf(f))
			return
		}
		monotone++
		want := modelTransversals(modelLeast(values, rows), rows)
		wantNumbers(t, "TransversalsOf", f, want, impl.ErrNone)(impl.TransversalsOf(f))
	})
	if monotone != 199 {
		t.Errorf("%d functions were monotone", monotone)
	}
	cases := map[string][]int64{
		"0:0": {0}, "0:1": nil, "1:01": {1}, "2:0111": {3}, "2:0001": {1, 2}, "2:0101": {1}, "2:0011": {2},
		"3:00010111": {3, 5, 6}, "3:00011111": {5, 6}, "3:00000111": {3, 4}, "3:00000001": {1, 2, 4}, "3:01111111": {7},
		"4:0001000100011111": {5, 6, 9, 10}, "4:0001011101111111": {7, 11, 13, 14}, "4:0000000100010111": {3, 5, 6, 9, 10, 12}, "4:0000000000000001": {1, 2, 4, 8},
	}
	for text, want := range cases {
		f := parsed(t, text)
		wantNumbers(t, "TransversalsOf", f, want, impl.ErrNone)(impl.TransversalsOf(f))
	}
	for _, text := range []string{"1:10", "2:0110", "2:1001", "2:1011", "2:0100", "2:1110", "3:00011011", "3:01101001", "4:0110100110010110", "4:0000000000000010", "4:0111111111111110"} {
		f := parsed(t, text)
		wantNumbers(t, "TransversalsOf", f, nil, impl.ErrState)(impl.TransversalsOf(f))
	}
}

// TestTransversalsAreLeastTrueRowsOfDuals goes by what the program's own functions tell. The transversals of
// what the transversals make are the least true rows again.
func TestTransversalsAreLeastTrueRowsOfDuals(t *testing.T) {
	for n := range int64(5) {
		list, _ := impl.MonotoneFuncs(n)
		for _, f := range list {
			dual, _ := impl.DualOf(f)
			want, _ := impl.LeastTrueRows(dual)
			transversals, code := impl.TransversalsOf(f)
			wantNumbers(t, "TransversalsOf", f, want, impl.ErrNone)(transversals, code)
			wantFunc(t, fmt.Sprint("FuncOfRows of the transversals of ", f), dual, impl.ErrNone)(impl.FuncOfRows(n, transversals))
			least, _ := impl.LeastTrueRows(f)
			wantNumbers(t, "TransversalsOf", dual, least, impl.ErrNone)(impl.TransversalsOf(dual))
		}
	}
}

func TestIsAsStrongAgainstTheDefinition(t *testing.T) {
	for _, f := range append(upToArity(3), funcsOf(4, 7)...) {
		for i := range f.Arity {
			for j := range f.Arity {
				if got, code := impl.IsAsStrong(f, i, j); got != modelAsStrong(f, i, j) || code != impl.ErrNone {
					t.Errorf("IsAsStrong(%v, %d, %d) = %v, %d", f, i, j, got, code)
				}
			}
		}
	}
}

func TestIsAsStrong(t *testing.T) {
	cases := []struct {
		f    string
		i, j int64
		want bool
	}{
		{"1:00", 0, 0, true}, {"1:10", 0, 0, true}, {"2:0110", 0, 1, true}, {"2:0110", 1, 0, true}, {"2:0110", 1, 1, true},
		{"2:1011", 1, 0, true}, {"2:1011", 0, 1, false}, {"2:0101", 0, 1, true}, {"2:0101", 1, 0, false}, {"2:0001", 0, 1, true},
		{"3:00010111", 0, 2, true}, {"3:00010111", 2, 0, true}, {"3:00010111", 1, 2, true},
		{"3:00011111", 2, 0, true}, {"3:00011111", 0, 2, false}, {"3:00011111", 0, 1, true}, {"3:00011111", 1, 0, true}, {"3:00011111", 1, 2, false},
		{"3:00011011", 0, 1, false}, {"3:00011011", 1, 0, true}, {"3:00011011", 0, 2, false}, {"3:00011011", 2, 0, true}, {"3:00011011", 1, 2, false}, {"3:00011011", 2, 1, false}, {"3:00011011", 2, 2, true},
		{"4:0001000100011111", 0, 1, true}, {"4:0001000100011111", 0, 2, false}, {"4:0001000100011111", 2, 0, false}, {"4:0001000100011111", 3, 2, true}, {"4:0001000100011111", 3, 1, false},
		{"4:0101010101010111", 0, 3, true}, {"4:0101010101010111", 3, 0, false}, {"4:0101010101010111", 3, 1, true},
	}
	for _, c := range cases {
		if got, code := impl.IsAsStrong(parsed(t, c.f), c.i, c.j); got != c.want || code != impl.ErrNone {
			t.Errorf("IsAsStrong(%s, %d, %d) = %v, %d", c.f, c.i, c.j, got, code)
		}
	}
}

func TestIsAsStrongErrors(t *testing.T) {
	for n := range int64(5) {
		zero, one := constantsOf(n)
		for _, f := range []impl.Func{zero, one, {Arity: n, Bits: 1}} {
			for _, i := range extremes {
				for _, j := range extremes {
					want, wantCode := true, int64(impl.ErrNone)
					if i < 0 || i >= n || j < 0 || j >= n {
						want, wantCode = false, impl.ErrRange
					}
					if got, code := impl.IsAsStrong(f, i, j); got != want || code != wantCode {
						t.Errorf("IsAsStrong(%v, %d, %d) = %v, %d, want %v, %d", f, i, j, got, code, want, wantCode)
					}
				}
			}
		}
	}
	for _, f := range brokenFuncs() {
		for _, i := range extremes {
			for _, j := range extremes {
				if got, code := impl.IsAsStrong(f, i, j); got || code != impl.ErrInvalid {
					t.Errorf("IsAsStrong(%v, %d, %d) = %v, %d", f, i, j, got, code)
				}
			}
		}
	}
}

func TestIsRegular(t *testing.T) {
	counts := make([]int64, 5)
	eachFunc(t, func(f impl.Func, rows rowModel) {
		want := isMonotoneInRows(modelValues(f), rows) && modelRegular(f)
		if want {
			counts[f.Arity]++
		}
		wantAnswer(t, "IsRegular", f, want, impl.ErrNone)(impl.IsRegular(f))
	})
	if !slices.Equal(counts, regularCounts) {
		t.Errorf("numbers of regular functions: %v", counts)
	}
	cases := map[string]bool{
		"0:0": true, "0:1": true, "1:00": true, "1:01": true, "1:11": true, "1:10": false, "2:0001": true, "2:0111": true, "2:0101": true, "2:0110": false, "2:1011": false, "2:1000": false,
		"3:00010111": true, "3:00011111": true, "3:00011011": false, "3:01101001": false, "3:11101000": false,
		"4:0001000100011111": false, "4:0000011101110111": false, "4:0101010101010111": true, "4:0001011101111111": true, "4:0000000000000000": true, "4:1111111111111111": true, "4:1000000000000000": false,
	}
	for text, want := range cases {
		f := parsed(t, text)
		wantAnswer(t, "IsRegular", f, want, impl.ErrNone)(impl.IsRegular(f))
	}
}

// TestRegularFuncsOfFourVariablesHaveWeighings: up to four variables the regular functions are the monotone
// threshold functions, which are those without negative weights.
func TestRegularFuncsOfFourVariablesHaveWeighings(t *testing.T) {
	eachFunc(t, func(f impl.Func, rows rowModel) {
		weights, _, code := impl.WeighingOf(f)
		want := code == impl.ErrNone && !slices.ContainsFunc(weights, func(weight int64) bool { return weight < 0 })
		wantAnswer(t, "IsRegular", f, want, impl.ErrNone)(impl.IsRegular(f))
	})
}

// TestWeighingOfAgainstTheDefinition also tells that no function has two lists of weights with the least
// sum, so that only one can be asked for.
func TestWeighingOfAgainstTheDefinition(t *testing.T) {
	least := modelWeighings()
	counts := make([]int64, 5)
	eachFunc(t, func(f impl.Func, rows rowModel) {
		want, found := least[f]
		if !found {
			wantWeighing(t, f, nil, 0, impl.ErrNotFound)(impl.WeighingOf(f))
			return
		}
		counts[f.Arity]++
		if want.lists != 1 {
			t.Errorf("%v has %d lists of weights with the sum %d", f, want.lists, want.sum)
		}
		wantWeighing(t, f, want.weights, want.bound, impl.ErrNone)(impl.WeighingOf(f))
	})
	if !slices.Equal(counts, thresholdCounts) {
		t.Errorf("numbers of threshold functions: %v", counts)
	}
}

func TestWeighingOf(t *testing.T) {
	cases := []struct {
		f       string
		weights []int64
		bound   int64
	}{
		{"0:0", nil, 20}, {"0:1", nil, 0}, {"1:00", []int64{0}, 20}, {"1:11", []int64{0}, 0}, {"1:01", []int64{1}, 1}, {"1:10", []int64{-1}, 0},
		{"2:0000", []int64{0, 0}, 20}, {"2:1111", []int64{0, 0}, 0}, {"2:0001", []int64{1, 1}, 2}, {"2:0111", []int64{1, 1}, 1}, {"2:1110", []int64{-1, -1}, -1}, {"2:1000", []int64{-1, -1}, 0},
		{"2:0101", []int64{1, 0}, 1}, {"2:1100", []int64{0, -1}, 0}, {"2:0100", []int64{1, -1}, 1}, {"2:0010", []int64{-1, 1}, 1}, {"2:1011", []int64{-1, 1}, 0}, {"2:1101", []int64{1, -1}, 0},
		{"3:00010111", []int64{1, 1, 1}, 2}, {"3:11101000", []int64{-1, -1, -1}, -1}, {"3:00011111", []int64{1, 1, 2}, 2}, {"3:00000111", []int64{1, 1, 2}, 3}, {"3:01000000", []int64{1, -1, -1}, 1}, {"3:11110001", []int64{1, 1, -2}, 0},
		{"4:0000000000000000", []int64{0, 0, 0, 0}, 20}, {"4:1111111111111111", []int64{0, 0, 0, 0}, 0}, {"4:0000000000000001", []int64{1, 1, 1, 1}, 4}, {"4:1000000000000000", []int64{-1, -1, -1, -1}, 0},
		{"4:0001011101111111", []int64{1, 1, 1, 1}, 2}, {"4:0001010101010111", []int64{2, 1, 1, 1}, 3}, {"4:0101010101010111", []int64{3, 1, 1, 1}, 3}, {"4:0000000011111111", []int64{0, 0, 0, 1}, 1}, {"4:1010101010101000", []int64{-3, -1, -1, -1}, -2},
	}
	for _, c := range cases {
		f := parsed(t, c.f)
		wantWeighing(t, f, c.weights, c.bound, impl.ErrNone)(impl.WeighingOf(f))
	}
	for _, text := range []string{"2:0110", "2:1001", "3:00011011", "3:01101001", "3:10000001", "3:01111110", "4:0001000100011111", "4:0000011101110111", "4:0110100110010110", "4:0110011001100110", "4:1000000000000001"} {
		f := parsed(t, text)
		wantWeighing(t, f, nil, 0, impl.ErrNotFound)(impl.WeighingOf(f))
	}
}

// TestWeighingsMakeTheirFunctions also looks at other weighings: none with the bound one greater, up to 20,
// and none with one weight nearer to 0 and any bound, makes the function.
func TestWeighingsMakeTheirFunctions(t *testing.T) {
	negative := 0
	eachFunc(t, func(f impl.Func, rows rowModel) {
		weights, bound, code := impl.WeighingOf(f)
		if code != impl.ErrNone {
			return
		}
		wantFunc(t, fmt.Sprint("the function of the weighing ", weights, bound), f, impl.ErrNone)(weighed(f.Arity, weights, bound), code)
		if bound > 20 || bound < 20 && weighed(f.Arity, weights, bound+1) == f {
			t.Errorf("WeighingOf(%v) = %v, %d", f, weights, bound)
		}
		for i, weight := range weights {
			if weight < -impl.MaxWeight || weight > impl.MaxWeight {
				t.Errorf("WeighingOf(%v) = %v, %d", f, weights, bound)
			}
			if weight < 0 {
				negative++
			}
			lesser := slices.Clone(weights)
			lesser[i] -= sign(weight)
			for other := int64(-17); other <= 20 && weight != 0; other++ {
				if weighed(f.Arity, lesser, other) == f {
					t.Errorf("WeighingOf(%v) = %v, %d, but %v, %d is less", f, weights, bound, lesser, other)
				}
			}
		}
	})
	if negative < 1000 {
		t.Errorf("only %d weights are negative", negative)
	}
}

func sign(number int64) int64 {
	switch {
	case number > 0:
		return 1
	case number < 0:
		return -1
	}
	return 0
}

func TestCountThreshold(t *testing.T) {
	for n := range int64(4) {
		wantCount(t, fmt.Sprintf("CountThreshold(%d)", n), thresholdCounts[n], impl.ErrNone)(impl.CountThreshold(n))
		found := int64(0)
		for _, f := range funcsOf(n, 1) {
			if _, _, code := impl.WeighingOf(f); code == impl.ErrNone {
				found++
			}
		}
		wantCount(t, fmt.Sprintf("CountThreshold(%d) by WeighingOf", n), found, impl.ErrNone)(impl.CountThreshold(n))
	}
}

// TestCountsAndListsOutside has the arities for which there are no counts and lists.
func TestCountsAndListsOutside(t *testing.T) {
	for _, n := range append(extremes, -2, 6, math.MinInt64+1) {
		if n < 0 || n > 4 {
			wantCount(t, fmt.Sprintf("CountMonotone(%d)", n), 0, impl.ErrRange)(impl.CountMonotone(n))
			wantFuncs(t, fmt.Sprintf("MonotoneFuncs(%d)", n), nil, impl.ErrRange)(impl.MonotoneFuncs(n))
		}
		if n < 0 || n > 3 {
			wantCount(t, fmt.Sprintf("CountThreshold(%d)", n), 0, impl.ErrRange)(impl.CountThreshold(n))
		}
	}
}

func TestLevelsOf(t *testing.T) {
	counts := make([]int64, 5)
	eachFunc(t, func(f impl.Func, rows rowModel) {
		levels := modelLevels(modelValues(f), rows)
		if levels == nil {
			wantNumbers(t, "LevelsOf", f, nil, impl.ErrState)(impl.LevelsOf(f))
			return
		}
		counts[f.Arity]++
		wantNumbers(t, "LevelsOf", f, levels, impl.ErrNone)(impl.LevelsOf(f))
	})
	if !slices.Equal(counts, []int64{2, 4, 8, 16, 32}) {
		t.Errorf("numbers of symmetric functions: %v", counts)
	}
	cases := map[string][]int64{
		"0:0": {0}, "0:1": {1}, "1:00": {0, 0}, "1:01": {0, 1}, "1:10": {1, 0}, "1:11": {1, 1}, "2:0001": {0, 0, 1}, "2:0110": {0, 1, 0}, "2:1110": {1, 1, 0},
		"3:00010111": {0, 0, 1, 1}, "3:01101001": {0, 1, 0, 1}, "3:10000001": {1, 0, 0, 1},
		"4:0110100110010110": {0, 1, 0, 1, 0}, "4:0001011001101000": {0, 0, 1, 0, 0}, "4:1111111111111111": {1, 1, 1, 1, 1}, "4:0000000000000001": {0, 0, 0, 0, 1}, "4:1000000000000000": {1, 0, 0, 0, 0},
	}
	for text, want := range cases {
		f := parsed(t, text)
		wantNumbers(t, "LevelsOf", f, want, impl.ErrNone)(impl.LevelsOf(f))
	}
	for _, text := range []string{"2:0101", "2:0011", "2:1011", "3:00011011", "3:01010101", "3:00010101", "3:11100001", "4:0001000100011111", "4:0111111111111101", "4:0000000100000001"} {
		f := parsed(t, text)
		wantNumbers(t, "LevelsOf", f, nil, impl.ErrState)(impl.LevelsOf(f))
	}
}

func TestFuncOfLevels(t *testing.T) {
	for n := range int64(5) {
		for _, levels := range allArguments(n + 1) {
			want := modelFunc(n, func(arguments []int64) int64 { return levels[sumOf(arguments)] })
			f, code := impl.FuncOfLevels(levels)
			wantFunc(t, fmt.Sprint("FuncOfLevels ", levels), want, impl.ErrNone)(f, code)
			wantNumbers(t, "LevelsOf", f, levels, impl.ErrNone)(impl.LevelsOf(f))
		}
	}
	cases := map[string][]int64{
		"0:0": {0}, "0:1": {1}, "1:01": {0, 1}, "1:10": {1, 0}, "2:0110": {0, 1, 0}, "2:0001": {0, 0, 1}, "3:00010111": {0, 0, 1, 1}, "3:01111110": {0, 1, 1, 0},
		"4:0110100010000000": {0, 1, 0, 0, 0}, "4:0000000100010110": {0, 0, 0, 1, 0}, "4:1001011101111110": {1, 0, 1, 1, 0},
	}
	for text, levels := range cases {
		wantFunc(t, fmt.Sprint("FuncOfLevels ", levels), parsed(t, text), impl.ErrNone)(impl.FuncOfLevels(levels))
	}
}

// TestLevelsLeadBack goes by what the program's own functions tell.
func TestLevelsLeadBack(t *testing.T) {
	eachFunc(t, func(f impl.Func, rows rowModel) {
		levels, code := impl.LevelsOf(f)
		if code != impl.ErrNone {
			return
		}
		wantFunc(t, fmt.Sprint("FuncOfLevels ", levels), f, impl.ErrNone)(impl.FuncOfLevels(levels))
	})
}

func TestFuncOfLevelsErrors(t *testing.T) {
	wantNone := func(levels []int64) {
		t.Helper()
		wantFunc(t, fmt.Sprintf("FuncOfLevels of %d levels, %.70s", len(levels), fmt.Sprint(levels)), impl.Func{}, impl.ErrRange)(impl.FuncOfLevels(levels))
	}
	wantNone(nil)
	wantNone([]int64{})
	for _, length := range []int{6, 7, 16, 17, 64, 65, 1 << 16} {
		wantNone(make([]int64, length))
		wantNone(slices.Repeat([]int64{1}, length))
		wantNone(slices.Repeat([]int64{2}, length))
	}
	for length := 1; length <= 5; length++ {
		for place := range length {
			for _, level := range []int64{-1, -2, 2, 3, 1 << 32, math.MaxInt64, math.MinInt64} {
				levels := make([]int64, length)
				levels[place] = level
				wantNone(levels)
			}
		}
	}
}

// TestInvalidComesFirstOfMonotone has what is not a function; some of these would be monotone, symmetric, or
// threshold functions if they were cut.
func TestInvalidComesFirstOfMonotone(t *testing.T) {
	for _, f := range brokenFuncs() {
		wantAnswer(t, "IsMonotone", f, false, impl.ErrInvalid)(impl.IsMonotone(f))
		wantNumbers(t, "LeastTrueRows", f, nil, impl.ErrInvalid)(impl.LeastTrueRows(f))
		wantNumbers(t, "GreatestFalseRows", f, nil, impl.ErrInvalid)(impl.GreatestFalseRows(f))
		wantNumbers(t, "TransversalsOf", f, nil, impl.ErrInvalid)(impl.TransversalsOf(f))
		wantAnswer(t, "IsRegular", f, false, impl.ErrInvalid)(impl.IsRegular(f))
		wantWeighing(t, f, nil, 0, impl.ErrInvalid)(impl.WeighingOf(f))
		wantNumbers(t, "LevelsOf", f, nil, impl.ErrInvalid)(impl.LevelsOf(f))
	}
}

func TestListsOfRowsAndLevelsStayAsTheyAre(t *testing.T) {
	rows := []int64{6, 3, 5, 3, 0, 1, 2, 7, 4, 4, 0, 6, 5, 1, 2, 7, 3, 9}
	levels := []int64{1, 0, 0, 1, 1, 0, 7, 1}
	keptRows, keptLevels := slices.Clone(rows), slices.Clone(levels)
	for n := range int64(6) {
		for length := range len(rows) + 1 {
			impl.FuncOfRows(n, rows[:length])
		}
	}
	for length := range len(levels) + 1 {
		impl.FuncOfLevels(levels[:length])
	}
	if !slices.Equal(rows, keptRows) || !slices.Equal(levels, keptLevels) {
		t.Errorf("the lists became %v and %v", rows, levels)
	}
}

func TestResultsOfMonotoneAreNewMemory(t *testing.T) {
	calls := map[string]func(impl.Func) ([]int64, int64){
		"LeastTrueRows": impl.LeastTrueRows, "GreatestFalseRows": impl.GreatestFalseRows, "TransversalsOf": impl.TransversalsOf, "LevelsOf": impl.LevelsOf,
		"WeighingOf": func(f impl.Func) ([]int64, int64) {
			weights, _, code := impl.WeighingOf(f)
			return weights, code
		},
	}
	for name, call := range calls {
		for _, f := range funcsByText(t, "0:1", "1:01", "2:0001", "3:00010111", "4:0001011101111111") {
			first, _ := call(f)
			kept := slices.Clone(first)
			spoil(first)
			wantNumbers(t, name+" after a change of its last result", f, kept, impl.ErrNone)(call(f))
		}
	}
	list, _ := impl.MonotoneFuncs(2)
	kept := slices.Clone(list)
	clear(list[:cap(list)])
	wantFuncs(t, "MonotoneFuncs after a change of its last result", kept, impl.ErrNone)(impl.MonotoneFuncs(2))
}

// tellMonotone returns all that the functions of the chapter tell of a function.
func tellMonotone(f impl.Func) string {
	monotone, a := impl.IsMonotone(f)
	least, b := impl.LeastTrueRows(f)
	greatest, c := impl.GreatestFalseRows(f)
	made, d := impl.FuncOfRows(f.Arity, least)
	list, e := impl.MonotoneFuncs(f.Arity)
	count, g := impl.CountMonotone(f.Arity)
	transversals, h := impl.TransversalsOf(f)
	strong, i := impl.IsAsStrong(f, 0, 1)
	regular, j := impl.IsRegular(f)
	weights, bound, k := impl.WeighingOf(f)
	thresholds, l := impl.CountThreshold(f.Arity)
	levels, m := impl.LevelsOf(f)
	return fmt.Sprint(monotone, a, least, b, greatest, c, made, d, list, e, count, g, transversals, h, strong, i, regular, j, weights, bound, k, thresholds, l, levels, m)
}

// TestMonotoneAtOnce has calls that go on at the same time, and each of them more than once.
func TestMonotoneAtOnce(t *testing.T) {
	var calls sync.WaitGroup
	for _, f := range append(every(upToArity(3), 29), every(funcsOf(4, 1), 13001)...) {
		want := tellMonotone(f)
		for range 4 {
			calls.Go(func() {
				if got := tellMonotone(f); got != want {
					t.Errorf("of %v: %s, and at another time %s", f, got, want)
				}
			})
		}
	}
	calls.Wait()
}

func TestMonotoneFuncsLeaveNothingBehind(t *testing.T) {
	before := runtime.NumGoroutine()
	for range 10 {
		for _, n := range extremes {
			impl.MonotoneFuncs(n)
			impl.CountMonotone(n)
		}
	}
	wantNoMoreGoroutines(t, before)
}

// wantNoMoreGoroutines waits a little, as a goroutine ends only after it has closed its channel, or has told
// that it is done.
func wantNoMoreGoroutines(t *testing.T, before int) {
	t.Helper()
	for range 100 {
		if runtime.NumGoroutine() <= before {
			return
		}
		time.Sleep(10 * time.Millisecond)
	}
	t.Errorf("of %d goroutines there are %d now", before, runtime.NumGoroutine())
}
