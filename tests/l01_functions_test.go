package tests

import (
	"fmt"
	"math"
	"slices"
	"strings"
	"testing"

	"loop.example/g01323/impl"
)

var extremes = []int64{math.MinInt64, -1, 0, 1, 2, 3, 4, 5, 62, 63, 64, 1 << 32, math.MaxInt64}

func TestConstants(t *testing.T) {
	got := []int64{impl.ErrNone, impl.ErrInvalid, impl.ErrRange, impl.ErrLimit, impl.ErrNotFound, impl.ErrState, impl.ErrSyntax}
	if !slices.Equal(got, []int64{0, 1, 2, 3, 4, 5, 6}) {
		t.Errorf("codes = %v", got)
	}
	if impl.MaxArity != 4 {
		t.Errorf("MaxArity = %d", impl.MaxArity)
	}
}

func TestIsFunc(t *testing.T) {
	greatest := []int64{1, 3, 15, 255, 65535}
	for n, bits := range greatest {
		for _, b := range []int64{0, bits / 2, bits} {
			if f := (impl.Func{Arity: int64(n), Bits: b}); !impl.IsFunc(f) {
				t.Errorf("IsFunc(%v) = false", f)
			}
		}
		for _, b := range []int64{bits + 1, -1, math.MaxInt64, math.MinInt64} {
			if f := (impl.Func{Arity: int64(n), Bits: b}); impl.IsFunc(f) {
				t.Errorf("IsFunc(%v) = true", f)
			}
		}
	}
	for _, f := range brokenFuncs() {
		if impl.IsFunc(f) {
			t.Errorf("IsFunc(%v) = true", f)
		}
	}
}

func TestFuncOf(t *testing.T) {
	for _, f := range smallAndSomeLarge() {
		var values []int64
		for _, arguments := range allArguments(f.Arity) {
			values = append(values, modelValue(f, arguments))
		}
		wantFunc(t, fmt.Sprint("FuncOf ", f.Arity, values), f, impl.ErrNone)(impl.FuncOf(f.Arity, values))
	}
	bad := []struct {
		n      int64
		values []int64
	}{
		{0, nil}, {0, []int64{}}, {0, []int64{2}}, {0, []int64{-1}}, {0, []int64{0, 1}},
		{1, nil}, {1, []int64{1}}, {1, []int64{1, 0, 1}}, {1, []int64{0, 2}}, {1, []int64{-1, 0}},
		{2, make([]int64, 3)}, {2, make([]int64, 5)}, {2, []int64{0, 0, 0, math.MaxInt64}},
		{3, make([]int64, 7)}, {3, make([]int64, 9)}, {4, make([]int64, 15)}, {4, make([]int64, 17)},
		{4, append(make([]int64, 15), 2)}, {5, make([]int64, 32)}, {5, nil}, {-1, nil}, {-1, []int64{0}},
		{math.MaxInt64, nil}, {math.MinInt64, nil}, {63, nil}, {64, nil}, {64, []int64{0}}, {4, make([]int64, 100000)},
	}
	for _, c := range bad {
		wantFunc(t, fmt.Sprint("FuncOf of ", c.n, " and ", len(c.values), " values"), impl.Func{}, impl.ErrRange)(impl.FuncOf(c.n, c.values))
	}
}

func TestValueAt(t *testing.T) {
	for _, f := range smallAndSomeLarge() {
		for _, arguments := range allArguments(f.Arity) {
			if v, code := impl.ValueAt(f, arguments); v != modelValue(f, arguments) || code != impl.ErrNone {
				t.Errorf("ValueAt(%v, %v) = %d, %d", f, arguments, v, code)
			}
		}
	}
	if v, code := impl.ValueAt(impl.Func{Arity: 0, Bits: 1}, nil); v != 1 || code != impl.ErrNone {
		t.Errorf("ValueAt of a constant = %d, %d", v, code)
	}
	one := impl.Func{Arity: 2, Bits: 15}
	bad := [][]int64{nil, {1}, {1, 1, 1}, {2, 0}, {0, 2}, {-1, 0}, {0, -1}, {math.MaxInt64, 0}, {0, math.MinInt64}, make([]int64, 1000)}
	for _, arguments := range bad {
		if v, code := impl.ValueAt(one, arguments); v != 0 || code != impl.ErrRange {
			t.Errorf("ValueAt(%v, %v) = %d, %d", one, arguments, v, code)
		}
	}
	if v, code := impl.ValueAt(impl.Func{Arity: 0, Bits: 1}, []int64{0}); v != 0 || code != impl.ErrRange {
		t.Errorf("ValueAt with an argument too many = %d, %d", v, code)
	}
}

func TestProjectionOf(t *testing.T) {
	for n := range int64(5) {
		for i := range n {
			want := modelFunc(n, func(arguments []int64) int64 { return arguments[i] })
			wantFunc(t, fmt.Sprint("ProjectionOf ", n, i), want, impl.ErrNone)(impl.ProjectionOf(n, i))
		}
	}
	for _, n := range extremes {
		for _, i := range extremes {
			if n < 1 || n > 4 || i < 0 || i >= n {
				wantFunc(t, fmt.Sprint("ProjectionOf ", n, i), impl.Func{}, impl.ErrRange)(impl.ProjectionOf(n, i))
			}
		}
	}
}

func TestConstantOf(t *testing.T) {
	for n := range int64(5) {
		for v := range int64(2) {
			want := modelFunc(n, func([]int64) int64 { return v })
			wantFunc(t, fmt.Sprint("ConstantOf ", n, v), want, impl.ErrNone)(impl.ConstantOf(n, v))
		}
	}
	for _, n := range extremes {
		for _, v := range extremes {
			if n < 0 || n > 4 || v < 0 || v > 1 {
				wantFunc(t, fmt.Sprint("ConstantOf ", n, v), impl.Func{}, impl.ErrRange)(impl.ConstantOf(n, v))
			}
		}
	}
}

func modelPut(f impl.Func, list []impl.Func) impl.Func {
	return modelFunc(list[0].Arity, func(arguments []int64) int64 {
		var values []int64
		for _, g := range list {
			values = append(values, modelValue(g, arguments))
		}
		return modelValue(f, values)
	})
}

func TestPutFuncs(t *testing.T) {
	for n := range int64(3) {
		for _, f := range funcsOf(1, 1) {
			for _, g := range funcsOf(n, 1) {
				wantFunc(t, fmt.Sprint("PutFuncs ", f, g), modelPut(f, []impl.Func{g}), impl.ErrNone)(impl.PutFuncs(f, []impl.Func{g}))
			}
		}
		for _, f := range funcsOf(2, 1) {
			for _, g := range funcsOf(n, 1) {
				for _, h := range funcsOf(n, 1) {
					list := []impl.Func{g, h}
					wantFunc(t, fmt.Sprint("PutFuncs ", f, list), modelPut(f, list), impl.ErrNone)(impl.PutFuncs(f, list))
				}
			}
		}
	}
	for n := range int64(5) {
		gs := funcsOf(n, max(1, int64(1)<<(int64(1)<<n)/13))
		for k, f := range append(funcsOf(3, 7), funcsOf(4, 997)...) {
			var list []impl.Func
			for i := range int(f.Arity) {
				list = append(list, gs[(k+k*i+i*i)%len(gs)])
			}
			wantFunc(t, fmt.Sprint("PutFuncs ", f, list), modelPut(f, list), impl.ErrNone)(impl.PutFuncs(f, list))
		}
	}
}

func TestProjectionsPutChangeNothing(t *testing.T) {
	for n := int64(1); n <= 4; n++ {
		var list []impl.Func
		for i := range n {
			p, _ := impl.ProjectionOf(n, i)
			list = append(list, p)
		}
		for _, f := range funcsOf(n, 1) {
			if got, code := impl.PutFuncs(f, list); got != f || code != impl.ErrNone {
				t.Fatalf("PutFuncs(%v, projections) = %v, %d", f, got, code)
			}
		}
	}
}

func TestPutFuncsErrors(t *testing.T) {
	and, id, one := impl.Func{Arity: 2, Bits: 8}, impl.Func{Arity: 1, Bits: 2}, impl.Func{Arity: 0, Bits: 1}
	broken := impl.Func{Arity: 1, Bits: 4}
	cases := []struct {
		f    impl.Func
		list []impl.Func
		code int64
	}{
		{one, nil, impl.ErrRange},
		{one, []impl.Func{one}, impl.ErrRange},
		{one, []impl.Func{}, impl.ErrRange},
		{and, nil, impl.ErrRange},
		{and, []impl.Func{id}, impl.ErrRange},
		{and, []impl.Func{id, id, id}, impl.ErrRange},
		{and, []impl.Func{id, and}, impl.ErrRange},
		{and, []impl.Func{and, id}, impl.ErrRange},
		{and, []impl.Func{one, id}, impl.ErrRange},
		{and, make([]impl.Func, 1000), impl.ErrRange},
		{and, []impl.Func{broken, id}, impl.ErrInvalid},
		{and, []impl.Func{id, broken}, impl.ErrInvalid},
		{one, []impl.Func{broken}, impl.ErrInvalid},
		{and, []impl.Func{broken}, impl.ErrInvalid},
		{and, []impl.Func{id, and, broken}, impl.ErrInvalid},
		{and, append(make([]impl.Func, 1000), broken), impl.ErrInvalid},
		{broken, []impl.Func{id}, impl.ErrInvalid},
		{broken, nil, impl.ErrInvalid},
	}
	for _, c := range cases {
		wantFunc(t, fmt.Sprintf("PutFuncs(%v, %d functions)", c.f, len(c.list)), impl.Func{}, c.code)(impl.PutFuncs(c.f, c.list))
	}
}

func TestEssentialOf(t *testing.T) {
	for _, f := range smallAndSomeLarge() {
		if got, code := impl.EssentialOf(f); !slices.Equal(got, modelEssential(f)) || code != impl.ErrNone {
			t.Errorf("EssentialOf(%v) = %v, %d, want %v", f, got, code, modelEssential(f))
		}
	}
	for n := range int64(5) {
		for v := range int64(2) {
			constant, _ := impl.ConstantOf(n, v)
			if got, code := impl.EssentialOf(constant); len(got) != 0 || code != impl.ErrNone {
				t.Errorf("EssentialOf(%v) = %v, %d", constant, got, code)
			}
		}
	}
}

func TestPermuteFunc(t *testing.T) {
	for n := range int64(5) {
		funcs := funcsOf(n, 1)
		if n == 4 {
			funcs = funcsOf(n, 997)
		}
		for _, p := range permutationsOf(n) {
			for _, f := range funcs {
				want := modelFunc(n, func(arguments []int64) int64 {
					var moved []int64
					for _, i := range p {
						moved = append(moved, arguments[i])
					}
					return modelValue(f, moved)
				})
				wantFunc(t, fmt.Sprint("PermuteFunc ", f, p), want, impl.ErrNone)(impl.PermuteFunc(f, p))
			}
		}
	}
	// A cycle of three tells a permutation from its inverse.
	wantFunc(t, "PermuteFunc by a cycle", parsed(t, "3:00001111"), impl.ErrNone)(impl.PermuteFunc(parsed(t, "3:00110011"), []int64{1, 2, 0}))
}

func TestPermuteFuncErrors(t *testing.T) {
	cases := []struct {
		n int64
		p []int64
	}{
		{0, []int64{0}}, {1, nil}, {1, []int64{}}, {1, []int64{1}}, {1, []int64{-1}}, {1, []int64{0, 0}},
		{2, []int64{0}}, {2, []int64{0, 0}}, {2, []int64{1, 1}}, {2, []int64{0, 2}}, {2, []int64{1, 2}},
		{2, []int64{0, 1, 2}}, {2, []int64{-1, 0}}, {3, []int64{0, 1, 1}}, {3, []int64{0, 1, 3}}, {3, []int64{2, 2, 2}},
		{4, []int64{0, 1, 2, 4}}, {4, []int64{3, 1, 2, 3}}, {4, []int64{0, 1, 2, math.MaxInt64}},
		{4, []int64{math.MinInt64, 1, 2, 3}}, {4, []int64{0, 1, 2, 3, 0}}, {4, make([]int64, 1000)},
	}
	for _, c := range cases {
		f := impl.Func{Arity: c.n, Bits: 1}
		wantFunc(t, fmt.Sprint("PermuteFunc ", f, c.p), impl.Func{}, impl.ErrRange)(impl.PermuteFunc(f, c.p))
	}
}

func TestFixVariable(t *testing.T) {
	for _, f := range smallAndSomeLarge() {
		for i := range f.Arity {
			for v := range int64(2) {
				want := modelFunc(f.Arity-1, func(arguments []int64) int64 {
					return modelValue(f, slices.Insert(slices.Clone(arguments), int(i), v))
				})
				wantFunc(t, fmt.Sprint("FixVariable ", f, i, v), want, impl.ErrNone)(impl.FixVariable(f, i, v))
			}
		}
	}
	for n := range int64(5) {
		f := impl.Func{Arity: n, Bits: 1}
		for _, i := range extremes {
			for _, v := range extremes {
				if i < 0 || i >= n || v < 0 || v > 1 {
					wantFunc(t, fmt.Sprint("FixVariable ", f, i, v), impl.Func{}, impl.ErrRange)(impl.FixVariable(f, i, v))
				}
			}
		}
	}
}

func TestWidenFunc(t *testing.T) {
	for n := range int64(4) {
		for _, f := range funcsOf(n, 1) {
			want := modelFunc(n+1, func(arguments []int64) int64 { return modelValue(f, arguments[:n]) })
			wantFunc(t, fmt.Sprint("WidenFunc ", f), want, impl.ErrNone)(impl.WidenFunc(f))
		}
	}
	for _, f := range funcsOf(4, 997) {
		wantFunc(t, fmt.Sprint("WidenFunc ", f), impl.Func{}, impl.ErrLimit)(impl.WidenFunc(f))
	}
	for _, f := range []impl.Func{{Arity: 4, Bits: 65536}, {Arity: 4, Bits: -1}, {Arity: 5, Bits: 0}} {
		wantFunc(t, fmt.Sprint("WidenFunc ", f), impl.Func{}, impl.ErrInvalid)(impl.WidenFunc(f))
	}
}

func TestCoreOf(t *testing.T) {
	for _, f := range smallAndSomeLarge() {
		essential := modelEssential(f)
		want := modelFunc(int64(len(essential)), func(arguments []int64) int64 {
			whole := make([]int64, f.Arity)
			for place, i := range essential {
				whole[i] = arguments[place]
			}
			return modelValue(f, whole)
		})
		core, code := impl.CoreOf(f)
		wantFunc(t, fmt.Sprint("CoreOf ", f), want, impl.ErrNone)(core, code)
		if got, _ := impl.EssentialOf(core); int64(len(got)) != core.Arity {
			t.Errorf("EssentialOf(CoreOf(%v)) = %v", f, got)
		}
	}
	wantFunc(t, "CoreOf of a constant", impl.Func{Arity: 0, Bits: 1}, impl.ErrNone)(impl.CoreOf(impl.Func{Arity: 4, Bits: 65535}))
	wantFunc(t, "CoreOf of a variable between", parsed(t, "2:0110"), impl.ErrNone)(impl.CoreOf(parsed(t, "3:01011010")))
}

func TestNegateFuncAndDualOf(t *testing.T) {
	for _, f := range smallAndSomeLarge() {
		negation := modelFunc(f.Arity, func(arguments []int64) int64 { return 1 - modelValue(f, arguments) })
		dual := modelFunc(f.Arity, func(arguments []int64) int64 { return 1 - modelValue(f, othersOf(arguments)) })
		wantFunc(t, fmt.Sprint("NegateFunc ", f), negation, impl.ErrNone)(impl.NegateFunc(f))
		wantFunc(t, fmt.Sprint("DualOf ", f), dual, impl.ErrNone)(impl.DualOf(f))
	}
}

func TestTwiceIsTheFunction(t *testing.T) {
	for _, f := range allFuncs() {
		dual, code := impl.DualOf(f)
		again, code2 := impl.DualOf(dual)
		if again != f || code != impl.ErrNone || code2 != impl.ErrNone {
			t.Fatalf("DualOf(DualOf(%v)) = %v, %d, %d", f, again, code, code2)
		}
		negation, code := impl.NegateFunc(f)
		again, code2 = impl.NegateFunc(negation)
		if negation == f || again != f || code != impl.ErrNone || code2 != impl.ErrNone {
			t.Fatalf("NegateFunc(NegateFunc(%v)) = %v, %d, %d", f, again, code, code2)
		}
	}
}

func TestWeightOf(t *testing.T) {
	for _, f := range smallAndSomeLarge() {
		want := int64(0)
		for _, arguments := range allArguments(f.Arity) {
			want += modelValue(f, arguments)
		}
		if got, code := impl.WeightOf(f); got != want || code != impl.ErrNone {
			t.Errorf("WeightOf(%v) = %d, %d, want %d", f, got, code, want)
		}
	}
}

var names = [][2]string{
	{"zero", "0:0"}, {"one", "0:1"}, {"id", "1:01"}, {"not", "1:10"},
	{"and", "2:0001"}, {"or", "2:0111"}, {"xor", "2:0110"}, {"nand", "2:1110"}, {"nor", "2:1000"}, {"equal", "2:1001"}, {"imply", "2:1011"},
	{"majority", "3:00010111"}, {"minority", "3:01101001"}, {"if", "3:00011011"},
}

func TestNames(t *testing.T) {
	named := map[impl.Func]string{}
	for _, c := range names {
		f := parsed(t, c[1])
		named[f] = c[0]
		wantFunc(t, "NamedFunc "+c[0], f, impl.ErrNone)(impl.NamedFunc(c[0]))
	}
	if len(named) != 14 {
		t.Errorf("%d functions with names", len(named))
	}
	for _, f := range allFuncs() {
		wantCode := int64(impl.ErrNone)
		if named[f] == "" {
			wantCode = impl.ErrNotFound
		}
		if got, code := impl.NameOf(f); got != named[f] || code != wantCode {
			t.Fatalf("NameOf(%v) = %q, %d, want %q, %d", f, got, code, named[f], wantCode)
		}
	}
	bad := []string{"", " ", "And", "AND", "and ", " and", "an", "andd", "xnor", "zero\x00", "\xff", "\xf0\x9f", "2:0001", "true", "0", strings.Repeat("and", 10000)}
	for _, name := range bad {
		wantFunc(t, fmt.Sprintf("NamedFunc(%.20q)", name), impl.Func{}, impl.ErrNotFound)(impl.NamedFunc(name))
	}
}

func TestTexts(t *testing.T) {
	for _, f := range smallAndSomeLarge() {
		want := fmt.Sprintf("%d:", f.Arity)
		for _, arguments := range allArguments(f.Arity) {
			want += fmt.Sprint(modelValue(f, arguments))
		}
		if got, code := impl.FuncText(f); got != want || code != impl.ErrNone {
			t.Errorf("FuncText(%v) = %q, %d, want %q", f, got, code, want)
		}
	}
	for _, f := range allFuncs() {
		text, code := impl.FuncText(f)
		back, code2 := impl.ParseFunc(text)
		if back != f || code != impl.ErrNone || code2 != impl.ErrNone {
			t.Fatalf("ParseFunc(FuncText(%v)) = %v, %d, %d", f, back, code, code2)
		}
	}
}

func TestParseFuncErrors(t *testing.T) {
	bad := []string{
		"", ":", "0", "2", "0:", ":0", "::", "0::0", "0:0:", ":0:0", "0:00", "0:2", "1:0", "1:011", "1:02", "1:0a",
		"2:000", "2:00011", "2:0002", "2:000 ", " 2:0001", "2 :0001", "2: 0001", "2:0001 ", "2:0001\n", "2:0001\x00",
		"02:0001", "+2:0001", "-2:0001", "2;0001", "20001", "2.0:0001", "3:0001", "4:" + strings.Repeat("0", 15), "4:" + strings.Repeat("0", 17),
		"5:" + strings.Repeat("0", 32), "5:0", "9:0", "/:0", "-1:", "-1:0", "a:0", "\xff:0", "2:\xff\xff\xff\xff", "\x02:0001", "2:\x00\x00\x00\x01",
		"2:000é", "２:0001", "10:" + strings.Repeat("0", 1024), "4:" + strings.Repeat("1", 100000), strings.Repeat("2", 100000) + ":0001",
		"2:0-11", "2:0+11", "6:", "1:/1", "1:1/", "1:\xff1",
	}
	for _, text := range bad {
		wantFunc(t, fmt.Sprintf("ParseFunc(%.20q)", text), impl.Func{}, impl.ErrSyntax)(impl.ParseFunc(text))
	}
}

func TestParseFuncOfAnyByte(t *testing.T) {
	good := map[string]bool{}
	for _, f := range funcsOf(1, 1) {
		text, _ := impl.FuncText(f)
		good[text] = true
	}
	for place := range 4 {
		for b := range 256 {
			text := []byte("1:01")
			text[place] = byte(b)
			if f, code := impl.ParseFunc(string(text)); (code == impl.ErrNone) != good[string(text)] || code != impl.ErrNone && (f != impl.Func{} || code != impl.ErrSyntax) {
				t.Errorf("ParseFunc(%q) = %v, %d", text, f, code)
			}
		}
	}
}

// TestInvalidComesFirst puts what is not a function beside arguments that are wrong, too.
func TestInvalidComesFirst(t *testing.T) {
	none := impl.Func{}
	for _, f := range brokenFuncs() {
		for _, list := range [][]int64{nil, {0}, {0, 1}, {7}, {-1, math.MaxInt64}, make([]int64, 100)} {
			if v, code := impl.ValueAt(f, list); v != 0 || code != impl.ErrInvalid {
				t.Errorf("ValueAt(%v, %v) = %d, %d", f, list, v, code)
			}
			wantFunc(t, fmt.Sprint("PermuteFunc ", f), none, impl.ErrInvalid)(impl.PermuteFunc(f, list))
		}
		for _, i := range extremes {
			for _, v := range extremes {
				wantFunc(t, fmt.Sprint("FixVariable ", f), none, impl.ErrInvalid)(impl.FixVariable(f, i, v))
			}
		}
		for _, list := range [][]impl.Func{nil, {f}, {none}, {none, none}, {f, none}, make([]impl.Func, 100)} {
			wantFunc(t, fmt.Sprint("PutFuncs ", f), none, impl.ErrInvalid)(impl.PutFuncs(f, list))
		}
		wantFunc(t, "PutFuncs of a list with a broken one", none, impl.ErrInvalid)(impl.PutFuncs(impl.Func{Arity: 1, Bits: 2}, []impl.Func{f}))
		wantFunc(t, fmt.Sprint("WidenFunc ", f), none, impl.ErrInvalid)(impl.WidenFunc(f))
		wantFunc(t, fmt.Sprint("CoreOf ", f), none, impl.ErrInvalid)(impl.CoreOf(f))
		wantFunc(t, fmt.Sprint("NegateFunc ", f), none, impl.ErrInvalid)(impl.NegateFunc(f))
		wantFunc(t, fmt.Sprint("DualOf ", f), none, impl.ErrInvalid)(impl.DualOf(f))
		if l, code := impl.EssentialOf(f); len(l) != 0 || code != impl.ErrInvalid {
			t.Errorf("EssentialOf(%v) = %v, %d", f, l, code)
		}
		if w, code := impl.WeightOf(f); w != 0 || code != impl.ErrInvalid {
			t.Errorf("WeightOf(%v) = %d, %d", f, w, code)
		}
		if s, code := impl.NameOf(f); s != "" || code != impl.ErrInvalid {
			t.Errorf("NameOf(%v) = %q, %d", f, s, code)
		}
		if s, code := impl.FuncText(f); s != "" || code != impl.ErrInvalid {
			t.Errorf("FuncText(%v) = %q, %d", f, s, code)
		}
	}
}

func TestArgumentsStayAsTheyAre(t *testing.T) {
	numbers := []int64{1, 0, 1, 1, 7, 8, 9}
	keptNumbers := slices.Clone(numbers)
	impl.FuncOf(2, numbers[:4])
	impl.ValueAt(impl.Func{Arity: 2, Bits: 8}, numbers[:2])
	impl.PermuteFunc(impl.Func{Arity: 2, Bits: 8}, numbers[:2])
	if !slices.Equal(numbers, keptNumbers) {
		t.Errorf("numbers became %v", numbers)
	}
	funcs := []impl.Func{{Arity: 1, Bits: 2}, {Arity: 1, Bits: 1}, {Arity: 4, Bits: 5}}
	keptFuncs := slices.Clone(funcs)
	impl.PutFuncs(impl.Func{Arity: 2, Bits: 8}, funcs[:2])
	if !slices.Equal(funcs, keptFuncs) {
		t.Errorf("functions became %v", funcs)
	}
}

func TestResultsAreNewMemory(t *testing.T) {
	f := impl.Func{Arity: 4, Bits: 0x6996}
	first, _ := impl.EssentialOf(f)
	first = first[:cap(first)]
	for i := range first {
		first[i] = 9
	}
	if second, _ := impl.EssentialOf(f); !slices.Equal(second, []int64{0, 1, 2, 3}) {
		t.Errorf("EssentialOf after a change of its last result = %v", second)
	}
}
