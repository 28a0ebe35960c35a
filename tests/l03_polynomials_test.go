package tests

import (
	"fmt"
	"math"
	"slices"
	"testing"

	"loop.example/g01323/impl"
)

// The functions of this chapter are held against their definitions for all functions of all arities.
// What the definitions say of rows is therefore looked up in tables, which are made once.

// rowModel tells, for the rows of an arity, what the definitions say of two of them.
type rowModel struct {
	size   []int64   // the number of the variables that a row has
	within [][]bool  // whether the second row has all variables of the first one
	common [][]int64 // the number of the variables that both have
	shift  [][]int64 // the row that has the variables that just one of both has
}

func modelOfRows(n int64) rowModel {
	var model rowModel
	lists := allArguments(n)
	for _, a := range lists {
		var within []bool
		var common, shift []int64
		for _, b := range lists {
			missing, both, apart := modelPair(a, b)
			within = append(within, missing == 0)
			common = append(common, both)
			shift = append(shift, rowOf(apart))
		}
		model.size = append(model.size, sumOf(a))
		model.within = append(model.within, within)
		model.common = append(model.common, common)
		model.shift = append(model.shift, shift)
	}
	return model
}

// modelPair counts the variables that a has and b has not, and those that both have, and lists the
// arguments that are 1 where just one of both is.
func modelPair(a, b []int64) (missing, both int64, apart []int64) {
	for i := range a {
		switch {
		case a[i] == 1 && b[i] == 1:
			both++
		case a[i] == 1:
			missing++
		}
		apart = append(apart, (a[i]+b[i])%2)
	}
	return missing, both, apart
}

func sumOf(list []int64) int64 {
	sum := int64(0)
	for _, number := range list {
		sum += number
	}
	return sum
}

func modelValues(f impl.Func) []int64 {
	values := make([]int64, 1<<f.Arity)
	bits := f.Bits
	for row := range values {
		values[row] = bits % 2
		bits /= 2
	}
	return values
}

func modelSigns(f impl.Func) []int64 {
	signs := modelValues(f)
	for row, v := range signs {
		signs[row] = []int64{1, -1}[v]
	}
	return signs
}

// modelPolynomial finds the numbers row by row: in each one all others that the value depends on are
// found already.
func modelPolynomial(f impl.Func, rows rowModel) []int64 {
	values := modelValues(f)
	polynomial := make([]int64, len(values))
	for r, value := range values {
		sum := value
		for w := range r {
			if rows.within[w][r] {
				sum += polynomial[w]
			}
		}
		polynomial[r] = sum % 2
	}
	return polynomial
}

func modelOfPolynomial(n int64, polynomial []int64, rows rowModel) impl.Func {
	return modelFunc(n, func(arguments []int64) int64 {
		sum := int64(0)
		for w, number := range polynomial {
			if rows.within[w][rowOf(arguments)] {
				sum += number
			}
		}
		return sum % 2
	})
}

func modelDegree(polynomial []int64, rows rowModel) int64 {
	degree := int64(0)
	for w, number := range polynomial {
		if number == 1 && rows.size[w] > degree {
			degree = rows.size[w]
		}
	}
	return degree
}

func modelSpectrum(f impl.Func, rows rowModel) []int64 {
	signs := modelSigns(f)
	var spectrum []int64
	for w := range signs {
		sum := int64(0)
		for r, sign := range signs {
			for range rows.common[w][r] {
				sign = -sign
			}
			sum += sign
		}
		spectrum = append(spectrum, sum)
	}
	return spectrum
}

func modelCorrelations(f impl.Func, rows rowModel) []int64 {
	signs := modelSigns(f)
	var correlations []int64
	for a := range signs {
		sum := int64(0)
		for r, sign := range signs {
			sum += sign * signs[rows.shift[r][a]]
		}
		correlations = append(correlations, sum)
	}
	return correlations
}

func modelInfluences(f impl.Func, rows rowModel) []int64 {
	values := modelValues(f)
	var influences []int64
	for single, size := range rows.size {
		if size != 1 {
			continue
		}
		count := int64(0)
		for r, value := range values {
			if value != values[rows.shift[r][single]] {
				count++
			}
		}
		influences = append(influences, count)
	}
	return influences
}

func modelDerivative(f impl.Func, a int, rows rowModel) []int64 {
	values := modelValues(f)
	var derivative []int64
	for r, value := range values {
		derivative = append(derivative, (value+values[rows.shift[r][a]])%2)
	}
	return derivative
}

func modelImmunity(n int64, spectrum []int64, rows rowModel) int64 {
	for k := n; k > 0; k-- {
		immune := true
		for w, number := range spectrum {
			if size := rows.size[w]; size >= 1 && size <= k && number != 0 {
				immune = false
			}
		}
		if immune {
			return k
		}
	}
	return 0
}

// eachFunc calls check with all functions of all arities, and stops at the first one that fails.
func eachFunc(t *testing.T, check func(f impl.Func, rows rowModel)) {
	t.Helper()
	for n := range int64(impl.MaxArity + 1) {
		rows := modelOfRows(n)
		for _, f := range funcsOf(n, 1) {
			check(f, rows)
			if t.Failed() {
				t.Fatalf("the first failure is at %v", f)
			}
		}
	}
}

// wantNumbers returns a check of a call that returns a list of numbers and a code.
func wantNumbers(t *testing.T, call string, f impl.Func, want []int64, wantCode int64) func([]int64, int64) {
	t.Helper()
	return func(got []int64, code int64) {
		t.Helper()
		if !slices.Equal(got, want) || code != wantCode {
			t.Errorf("%s(%v) = %v, %d, want %v, %d", call, f, got, code, want, wantCode)
		}
	}
}

// wantAnswer returns a check of a call that returns a number or a bool, and a code.
func wantAnswer[T comparable](t *testing.T, call string, f impl.Func, want T, wantCode int64) func(T, int64) {
	t.Helper()
	return func(got T, code int64) {
		t.Helper()
		if got != want || code != wantCode {
			t.Errorf("%s(%v) = %v, %d, want %v, %d", call, f, got, code, want, wantCode)
		}
	}
}

func TestPolynomialOf(t *testing.T) {
	eachFunc(t, func(f impl.Func, rows rowModel) {
		wantNumbers(t, "PolynomialOf", f, modelPolynomial(f, rows), impl.ErrNone)(impl.PolynomialOf(f))
	})
	cases := map[string][]int64{
		"0:0": {0}, "0:1": {1}, "1:00": {0, 0}, "1:11": {1, 0}, "1:01": {0, 1}, "1:10": {1, 1},
		"2:0111": {0, 1, 1, 1}, "2:0001": {0, 0, 0, 1}, "2:0110": {0, 1, 1, 0}, "2:1011": {1, 1, 0, 1}, "2:1000": {1, 1, 1, 1},
		"3:00010111": {0, 0, 0, 1, 0, 1, 1, 0}, "3:00011011": {0, 0, 0, 1, 1, 1, 0, 0},
		"4:0110100110010110": {0, 1, 1, 0, 1, 0, 0, 0, 1, 0, 0, 0, 0, 0, 0, 0},
		"4:0000000000000001": {0, 0, 0, 0, 0, 0, 0, 0, 0, 0, 0, 0, 0, 0, 0, 1},
		"4:1000000000000000": {1, 1, 1, 1, 1, 1, 1, 1, 1, 1, 1, 1, 1, 1, 1, 1},
	}
	for text, want := range cases {
		f := parsed(t, text)
		wantNumbers(t, "PolynomialOf", f, want, impl.ErrNone)(impl.PolynomialOf(f))
	}
}

func TestPolynomialsLeadBack(t *testing.T) {
	eachFunc(t, func(f impl.Func, rows rowModel) {
		polynomial, code := impl.PolynomialOf(f)
		back, backCode := impl.FuncOfPolynomial(f.Arity, polynomial)
		if back != f || code != impl.ErrNone || backCode != impl.ErrNone {
			t.Errorf("FuncOfPolynomial(PolynomialOf(%v)) = %v, %d, %d", f, back, code, backCode)
		}
		// The values of all functions of an arity are all lists of numbers of its length.
		list := modelValues(f)
		made, code := impl.FuncOfPolynomial(f.Arity, list)
		again, againCode := impl.PolynomialOf(made)
		if !slices.Equal(again, list) || code != impl.ErrNone || againCode != impl.ErrNone {
			t.Errorf("PolynomialOf(FuncOfPolynomial(%d, %v)) = %v, %d, %d", f.Arity, list, again, code, againCode)
		}
	})
}

func TestFuncOfPolynomial(t *testing.T) {
	for n := range int64(5) {
		rows := modelOfRows(n)
		step := int64(1)
		if n == 4 {
			step = 13
		}
		for _, f := range funcsOf(n, step) {
			list := modelValues(f)
			if got, code := impl.FuncOfPolynomial(n, list); got != modelOfPolynomial(n, list, rows) || code != impl.ErrNone {
				t.Fatalf("FuncOfPolynomial(%d, %v) = %v, %d", n, list, got, code)
			}
		}
	}
	wantFunc(t, "FuncOfPolynomial of 1 and 0", parsed(t, "1:11"), impl.ErrNone)(impl.FuncOfPolynomial(1, []int64{1, 0}))
	wantFunc(t, "FuncOfPolynomial of nand", parsed(t, "2:1110"), impl.ErrNone)(impl.FuncOfPolynomial(2, []int64{1, 0, 0, 1}))
	wantFunc(t, "FuncOfPolynomial of a constant", parsed(t, "0:1"), impl.ErrNone)(impl.FuncOfPolynomial(0, []int64{1}))
}

func TestFuncOfPolynomialErrors(t *testing.T) {
	for n := range int64(5) {
		length := 1 << n
		for _, other := range []int{0, length - 1, length + 1, 2 * length, 32, 1000, 100000} {
			if other != length {
				wantFunc(t, fmt.Sprint("FuncOfPolynomial of ", n, " and ", other, " numbers"), impl.Func{}, impl.ErrRange)(impl.FuncOfPolynomial(n, make([]int64, other)))
			}
		}
		wantFunc(t, fmt.Sprint("FuncOfPolynomial of ", n, " and nil"), impl.Func{}, impl.ErrRange)(impl.FuncOfPolynomial(n, nil))
		for place := range length {
			for _, number := range []int64{2, 3, -1, -2, math.MaxInt64, math.MinInt64} {
				list := make([]int64, length)
				list[place] = number
				wantFunc(t, fmt.Sprint("FuncOfPolynomial ", n, list), impl.Func{}, impl.ErrRange)(impl.FuncOfPolynomial(n, list))
			}
		}
	}
	for _, n := range extremes {
		for _, length := range []int{0, 1, 2, 16, 32} {
			if n < 0 || n > 4 {
				wantFunc(t, fmt.Sprint("FuncOfPolynomial of ", n, " and ", length, " numbers"), impl.Func{}, impl.ErrRange)(impl.FuncOfPolynomial(n, make([]int64, length)))
			}
		}
	}
}

func TestDegreeOfFunc(t *testing.T) {
	eachFunc(t, func(f impl.Func, rows rowModel) {
		want := modelDegree(modelPolynomial(f, rows), rows)
		wantAnswer(t, "DegreeOfFunc", f, want, impl.ErrNone)(impl.DegreeOfFunc(f))
	})
	for n := range int64(5) {
		for v := range int64(2) {
			constant, _ := impl.ConstantOf(n, v)
			wantAnswer(t, "DegreeOfFunc", constant, int64(0), impl.ErrNone)(impl.DegreeOfFunc(constant))
		}
	}
	cases := map[string]int64{"1:01": 1, "1:10": 1, "2:0110": 1, "2:0001": 2, "2:0111": 2, "3:01101001": 1, "3:00010111": 2, "3:00000001": 3, "4:0000000000000001": 4, "4:0001000100011110": 2}
	for text, want := range cases {
		f := parsed(t, text)
		wantAnswer(t, "DegreeOfFunc", f, want, impl.ErrNone)(impl.DegreeOfFunc(f))
	}
}

func TestAffinePart(t *testing.T) {
	eachFunc(t, func(f impl.Func, rows rowModel) {
		polynomial := modelPolynomial(f, rows)
		for w := range polynomial {
			if rows.size[w] > 1 {
				polynomial[w] = 0
			}
		}
		part, code := impl.AffinePart(f)
		kept, _ := impl.PolynomialOf(part)
		if part.Arity != f.Arity || !slices.Equal(kept, polynomial) || code != impl.ErrNone {
			t.Errorf("AffinePart(%v) = %v, %d, with the polynomial %v, want %v", f, part, code, kept, polynomial)
		}
	})
	cases := map[string]string{
		"0:0": "0:0", "0:1": "0:1", "1:10": "1:10", "2:0111": "2:0110", "2:0001": "2:0000", "2:1110": "2:1111", "2:1011": "2:1010",
		"3:00010111": "3:00000000", "3:00011011": "3:00001111", "4:0110100110010110": "4:0110100110010110", "4:1000000000000000": "4:1001011001101001",
	}
	for text, want := range cases {
		wantFunc(t, "AffinePart of "+text, parsed(t, want), impl.ErrNone)(impl.AffinePart(parsed(t, text)))
	}
}

// checkSumAndProduct checks both against the values, and that the order of the functions is nothing.
func checkSumAndProduct(t *testing.T, f, g impl.Func) {
	t.Helper()
	sum := modelFunc(f.Arity, func(arguments []int64) int64 {
		return (modelValue(f, arguments) + modelValue(g, arguments)) % 2
	})
	product := modelFunc(f.Arity, func(arguments []int64) int64 {
		return modelValue(f, arguments) * modelValue(g, arguments)
	})
	for _, pair := range [][2]impl.Func{{f, g}, {g, f}} {
		wantFunc(t, fmt.Sprint("SumOfFuncs", pair), sum, impl.ErrNone)(impl.SumOfFuncs(pair[0], pair[1]))
		wantFunc(t, fmt.Sprint("ProductOfFuncs", pair), product, impl.ErrNone)(impl.ProductOfFuncs(pair[0], pair[1]))
	}
}

func TestSumOfFuncsAndProductOfFuncs(t *testing.T) {
	steps := []int64{1, 1, 1, 3, 997}
	for n, step := range steps {
		for _, f := range funcsOf(int64(n), step) {
			for _, g := range funcsOf(int64(n), step) {
				checkSumAndProduct(t, f, g)
			}
		}
	}
	wantFunc(t, "SumOfFuncs of or and and", parsed(t, "2:0110"), impl.ErrNone)(impl.SumOfFuncs(parsed(t, "2:0111"), parsed(t, "2:0001")))
	wantFunc(t, "ProductOfFuncs of or and nand", parsed(t, "2:0110"), impl.ErrNone)(impl.ProductOfFuncs(parsed(t, "2:0111"), parsed(t, "2:1110")))
	wantFunc(t, "SumOfFuncs of one and one", parsed(t, "0:0"), impl.ErrNone)(impl.SumOfFuncs(parsed(t, "0:1"), parsed(t, "0:1")))
	wantFunc(t, "ProductOfFuncs of one and one", parsed(t, "0:1"), impl.ErrNone)(impl.ProductOfFuncs(parsed(t, "0:1"), parsed(t, "0:1")))
}

func TestPairErrors(t *testing.T) {
	wantPair := func(f, g impl.Func, code int64) {
		t.Helper()
		wantFunc(t, fmt.Sprint("SumOfFuncs ", f, g), impl.Func{}, code)(impl.SumOfFuncs(f, g))
		wantFunc(t, fmt.Sprint("ProductOfFuncs ", f, g), impl.Func{}, code)(impl.ProductOfFuncs(f, g))
	}
	for n := range int64(5) {
		good := impl.Func{Arity: n, Bits: 1}
		for m := range int64(5) {
			if m != n {
				wantPair(good, impl.Func{Arity: m, Bits: 1}, impl.ErrRange)
				wantPair(good, impl.Func{Arity: m, Bits: 0}, impl.ErrRange)
			}
		}
		// Among these are some of the same arity, and some of other ones.
		for _, broken := range brokenFuncs() {
			wantPair(good, broken, impl.ErrInvalid)
			wantPair(broken, good, impl.ErrInvalid)
			wantPair(broken, broken, impl.ErrInvalid)
		}
	}
}

func TestDerivativeBy(t *testing.T) {
	eachFunc(t, func(f impl.Func, rows rowModel) {
		for a := range rows.size {
			got, code := impl.DerivativeBy(f, int64(a))
			if got.Arity != f.Arity || !slices.Equal(modelValues(got), modelDerivative(f, a, rows)) || code != impl.ErrNone {
				t.Errorf("DerivativeBy(%v, %d) = %v, %d", f, a, got, code)
			}
		}
	})
	cases := []struct {
		f    string
		a    int64
		want string
	}{
		{"0:0", 0, "0:0"}, {"0:1", 0, "0:0"}, {"1:01", 0, "1:00"}, {"1:01", 1, "1:11"},
		{"2:0001", 0, "2:0000"}, {"2:0001", 1, "2:0011"}, {"2:0001", 2, "2:0101"}, {"2:0001", 3, "2:1001"},
		{"3:01101001", 7, "3:11111111"}, {"4:0000000000000001", 15, "4:1000000000000001"},
	}
	for _, c := range cases {
		wantFunc(t, fmt.Sprint("DerivativeBy of ", c.f, " by ", c.a), parsed(t, c.want), impl.ErrNone)(impl.DerivativeBy(parsed(t, c.f), c.a))
	}
}

func TestDerivativeByRowsOutside(t *testing.T) {
	for n := range int64(5) {
		count := int64(len(allArguments(n)))
		for _, f := range []impl.Func{{Arity: n, Bits: 0}, {Arity: n, Bits: 1}} {
			for _, a := range append([]int64{-2, count, count + 1, 2 * count, math.MinInt64 + 1}, extremes...) {
				if a < 0 || a >= count {
					wantFunc(t, fmt.Sprint("DerivativeBy ", f, a), impl.Func{}, impl.ErrRange)(impl.DerivativeBy(f, a))
				}
			}
			for _, a := range []int64{0, count - 1} {
				if _, code := impl.DerivativeBy(f, a); code != impl.ErrNone {
					t.Errorf("DerivativeBy(%v, %d): code %d", f, a, code)
				}
			}
		}
	}
}

func TestDerivativesHaveALesserDegree(t *testing.T) {
	eachFunc(t, func(f impl.Func, rows rowModel) {
		degree, _ := impl.DegreeOfFunc(f)
		for a := range rows.size {
			derivative, code := impl.DerivativeBy(f, int64(a))
			lesser, lesserCode := impl.DegreeOfFunc(derivative)
			if lesser >= degree && lesser != 0 || code != impl.ErrNone || lesserCode != impl.ErrNone {
				t.Errorf("DerivativeBy(%v, %d) has the degree %d, %d, %d, the function %d", f, a, lesser, code, lesserCode, degree)
			}
		}
	})
}

func TestSpectrumOf(t *testing.T) {
	eachFunc(t, func(f impl.Func, rows rowModel) {
		wantNumbers(t, "SpectrumOf", f, modelSpectrum(f, rows), impl.ErrNone)(impl.SpectrumOf(f))
	})
	cases := map[string][]int64{
		"0:0": {1}, "0:1": {-1}, "1:00": {2, 0}, "1:11": {-2, 0}, "1:01": {0, 2}, "1:10": {0, -2},
		"2:0001": {2, 2, 2, -2}, "2:0110": {0, 0, 0, 4}, "2:1001": {0, 0, 0, -4}, "2:0101": {0, 4, 0, 0}, "2:0011": {0, 0, 4, 0},
		"3:00010111": {0, 4, 4, 0, 4, 0, 0, -4}, "3:11111111": {-8, 0, 0, 0, 0, 0, 0, 0},
		"4:0001000100011110": {4, 4, 4, -4, 4, 4, 4, -4, 4, 4, 4, -4, -4, -4, -4, 4},
	}
	for text, want := range cases {
		f := parsed(t, text)
		wantNumbers(t, "SpectrumOf", f, want, impl.ErrNone)(impl.SpectrumOf(f))
	}
}

func TestSquaresOfSpectraAddUp(t *testing.T) {
	want := []int64{1, 4, 16, 64, 256}
	eachFunc(t, func(f impl.Func, rows rowModel) {
		spectrum, code := impl.SpectrumOf(f)
		sum := int64(0)
		for _, number := range spectrum {
			sum += number * number
		}
		if sum != want[f.Arity] || code != impl.ErrNone {
			t.Errorf("SpectrumOf(%v) = %v, %d, with squares that add up to %d", f, spectrum, code, sum)
		}
	})
}

// TestAffineDistance counts the places at which a function differs from each affine one.
func TestAffineDistance(t *testing.T) {
	affine := map[int64][]impl.Func{}
	for n := range int64(5) {
		for g := range modelAffine(n) {
			affine[n] = append(affine[n], g)
		}
	}
	farthest := make([]int64, 5)
	eachFunc(t, func(f impl.Func, rows rowModel) {
		values := modelValues(f)
		least := int64(len(values))
		for _, g := range affine[f.Arity] {
			count := int64(0)
			bits := g.Bits
			for _, v := range values {
				count += (v + bits%2) % 2
				bits /= 2
			}
			least = min(least, count)
		}
		farthest[f.Arity] = max(farthest[f.Arity], least)
		wantAnswer(t, "AffineDistance", f, least, impl.ErrNone)(impl.AffineDistance(f))
	})
	if !slices.Equal(farthest, []int64{0, 0, 1, 2, 6}) {
		t.Errorf("the greatest distances are %v", farthest)
	}
	cases := map[string]int64{"0:0": 0, "0:1": 0, "1:10": 0, "2:0001": 1, "2:1001": 0, "3:00010111": 2, "3:00000001": 1, "4:0001000100011110": 6, "4:1001011001101001": 0}
	for text, want := range cases {
		f := parsed(t, text)
		wantAnswer(t, "AffineDistance", f, want, impl.ErrNone)(impl.AffineDistance(f))
	}
}

func TestCorrelationsOf(t *testing.T) {
	atZero := []int64{1, 2, 4, 8, 16}
	eachFunc(t, func(f impl.Func, rows rowModel) {
		got, code := impl.CorrelationsOf(f)
		wantNumbers(t, "CorrelationsOf", f, modelCorrelations(f, rows), impl.ErrNone)(got, code)
		if len(got) == 0 || got[0] != atZero[f.Arity] {
			t.Errorf("CorrelationsOf(%v) = %v", f, got)
		}
	})
	cases := map[string][]int64{
		"0:0": {1}, "0:1": {1}, "1:00": {2, 2}, "1:01": {2, -2}, "2:0001": {4, 0, 0, 0}, "2:0110": {4, -4, -4, 4}, "2:0011": {4, 4, -4, -4},
		"3:00010111": {8, 0, 0, 0, 0, 0, 0, -8}, "3:00000001": {8, 4, 4, 4, 4, 4, 4, 4},
		"4:0001000100011110": {16, 0, 0, 0, 0, 0, 0, 0, 0, 0, 0, 0, 0, 0, 0, 0},
	}
	for text, want := range cases {
		f := parsed(t, text)
		wantNumbers(t, "CorrelationsOf", f, want, impl.ErrNone)(impl.CorrelationsOf(f))
	}
}

func TestInfluencesOf(t *testing.T) {
	eachFunc(t, func(f impl.Func, rows rowModel) {
		wantNumbers(t, "InfluencesOf", f, modelInfluences(f, rows), impl.ErrNone)(impl.InfluencesOf(f))
	})
	cases := map[string][]int64{
		"0:0": nil, "0:1": nil, "1:00": {0}, "1:10": {2}, "2:0001": {2, 2}, "2:0110": {4, 4}, "2:0101": {4, 0}, "2:0011": {0, 4},
		"3:00010111": {4, 4, 4}, "3:00011011": {4, 4, 4}, "3:00000001": {2, 2, 2}, "3:00001111": {0, 0, 8}, "4:0110100110010110": {16, 16, 16, 16},
		"4:0000000000010001": {4, 4, 0, 4},
	}
	for text, want := range cases {
		f := parsed(t, text)
		wantNumbers(t, "InfluencesOf", f, want, impl.ErrNone)(impl.InfluencesOf(f))
	}
}

func TestIsBalanced(t *testing.T) {
	counts := make([]int64, 5)
	eachFunc(t, func(f impl.Func, rows rowModel) {
		values := modelValues(f)
		want := sumOf(values)*2 == int64(len(values))
		if want {
			counts[f.Arity]++
		}
		wantAnswer(t, "IsBalanced", f, want, impl.ErrNone)(impl.IsBalanced(f))
	})
	if !slices.Equal(counts, []int64{0, 2, 6, 70, 12870}) {
		t.Errorf("numbers of balanced functions: %v", counts)
	}
	cases := map[string]bool{"0:0": false, "0:1": false, "1:01": true, "1:00": false, "2:0110": true, "2:0001": false, "2:0111": false, "3:00010111": true, "4:1111111111111111": false}
	for text, want := range cases {
		f := parsed(t, text)
		wantAnswer(t, "IsBalanced", f, want, impl.ErrNone)(impl.IsBalanced(f))
	}
}

func TestIsBent(t *testing.T) {
	counts := make([]int64, 5)
	eachFunc(t, func(f impl.Func, rows rowModel) {
		squares := map[int64]bool{}
		for _, number := range modelSpectrum(f, rows) {
			squares[number*number] = true
		}
		if len(squares) == 1 {
			counts[f.Arity]++
		}
		wantAnswer(t, "IsBent", f, len(squares) == 1, impl.ErrNone)(impl.IsBent(f))
	})
	if !slices.Equal(counts, []int64{2, 0, 8, 0, 896}) {
		t.Errorf("numbers of bent functions: %v", counts)
	}
	cases := map[string]bool{"0:0": true, "0:1": true, "1:01": false, "1:00": false, "2:0001": true, "2:1000": true, "2:0110": false, "3:00010111": false, "4:0001000100011110": true, "4:0000000000000001": false}
	for text, want := range cases {
		f := parsed(t, text)
		wantAnswer(t, "IsBent", f, want, impl.ErrNone)(impl.IsBent(f))
	}
}

func TestImmunityOf(t *testing.T) {
	eachFunc(t, func(f impl.Func, rows rowModel) {
		want := modelImmunity(f.Arity, modelSpectrum(f, rows), rows)
		wantAnswer(t, "ImmunityOf", f, want, impl.ErrNone)(impl.ImmunityOf(f))
		constant := f.Bits == 0 || f.Bits == int64(1)<<len(rows.size)-1
		if got, _ := impl.ImmunityOf(f); (got == f.Arity) != constant {
			t.Errorf("ImmunityOf(%v) = %d", f, got)
		}
	})
	cases := map[string]int64{
		"0:0": 0, "0:1": 0, "1:00": 1, "1:11": 1, "1:01": 0, "1:10": 0, "2:0000": 2, "2:0110": 1, "2:1001": 1, "2:0001": 0, "2:0101": 0,
		"3:01101001": 2, "3:00010111": 0, "3:01100110": 1, "3:10000001": 1, "4:0110100110010110": 3, "4:0110100101101001": 2, "4:1111111111111111": 4,
	}
	for text, want := range cases {
		f := parsed(t, text)
		wantAnswer(t, "ImmunityOf", f, want, impl.ErrNone)(impl.ImmunityOf(f))
	}
}

// TestInvalidComesFirstOfPolynomials puts what is not a function beside rows that are wrong, too.
func TestInvalidComesFirstOfPolynomials(t *testing.T) {
	for _, f := range brokenFuncs() {
		wantNumbers(t, "PolynomialOf", f, nil, impl.ErrInvalid)(impl.PolynomialOf(f))
		wantAnswer(t, "DegreeOfFunc", f, int64(0), impl.ErrInvalid)(impl.DegreeOfFunc(f))
		wantFunc(t, fmt.Sprint("AffinePart ", f), impl.Func{}, impl.ErrInvalid)(impl.AffinePart(f))
		for _, a := range extremes {
			wantFunc(t, fmt.Sprint("DerivativeBy ", f, a), impl.Func{}, impl.ErrInvalid)(impl.DerivativeBy(f, a))
		}
		wantNumbers(t, "SpectrumOf", f, nil, impl.ErrInvalid)(impl.SpectrumOf(f))
		wantAnswer(t, "AffineDistance", f, int64(0), impl.ErrInvalid)(impl.AffineDistance(f))
		wantNumbers(t, "CorrelationsOf", f, nil, impl.ErrInvalid)(impl.CorrelationsOf(f))
		wantNumbers(t, "InfluencesOf", f, nil, impl.ErrInvalid)(impl.InfluencesOf(f))
		wantAnswer(t, "IsBalanced", f, false, impl.ErrInvalid)(impl.IsBalanced(f))
		wantAnswer(t, "IsBent", f, false, impl.ErrInvalid)(impl.IsBent(f))
		wantAnswer(t, "ImmunityOf", f, int64(0), impl.ErrInvalid)(impl.ImmunityOf(f))
	}
}

func TestPolynomialsStayAsTheyAre(t *testing.T) {
	whole := slices.Repeat([]int64{1, 0, 1, 1, 7}, 4)
	kept := slices.Clone(whole)
	for n := range int64(5) {
		for length := range len(whole) + 1 {
			impl.FuncOfPolynomial(n, whole[:length])
		}
	}
	impl.FuncOfPolynomial(2, whole[:4])
	if !slices.Equal(whole, kept) {
		t.Errorf("the list became %v", whole)
	}
}

func TestResultsOfPolynomialsAreNewMemory(t *testing.T) {
	calls := map[string]func(impl.Func) ([]int64, int64){
		"PolynomialOf": impl.PolynomialOf, "SpectrumOf": impl.SpectrumOf,
		"CorrelationsOf": impl.CorrelationsOf, "InfluencesOf": impl.InfluencesOf,
	}
	for name, call := range calls {
		for _, f := range []impl.Func{{Arity: 0, Bits: 1}, {Arity: 2, Bits: 8}, {Arity: 4, Bits: 0x6996}} {
			first, _ := call(f)
			kept := slices.Clone(first)
			spoil(first)
			wantNumbers(t, name+" after a change of its last result", f, kept, impl.ErrNone)(call(f))
		}
	}
}
