package tests

import (
	"fmt"
	"math"
	"slices"
	"sync"
	"testing"

	"loop.example/g01323/impl"
)

// classCounts has, by classes, the numbers of functions of the arities 0 to 4.
var classCounts = [][]int64{
	{1, 2, 8, 128, 32768},
	{1, 2, 8, 128, 32768},
	{0, 2, 4, 16, 256},
	{2, 3, 6, 20, 168},
	{2, 4, 8, 16, 32},
}

var shefferCounts = []int64{0, 0, 2, 56, 16256}

// modelRows returns the class rows of all functions, found by the definitions; the tests share them.
var modelRows = sync.OnceValue(func() map[impl.Func][]int64 {
	rows := map[impl.Func][]int64{}
	for n := range int64(5) {
		affine := modelAffine(n)
		for _, f := range funcsOf(n, 1) {
			rows[f] = modelClassRow(f, affine)
		}
	}
	return rows
})

// modelClasses returns the classes of a list by the class rows of its functions.
func modelClasses(rows map[impl.Func][]int64, list []impl.Func) []int64 {
	var classes []int64
	for k := range int64(5) {
		if !slices.ContainsFunc(list, func(f impl.Func) bool { return rows[f][k] == 0 }) {
			classes = append(classes, k)
		}
	}
	return classes
}

func modelBase(rows map[impl.Func][]int64, list []impl.Func) bool {
	if len(modelClasses(rows, list)) > 0 {
		return false
	}
	for place := range list {
		if len(modelClasses(rows, slices.Delete(slices.Clone(list), place, place+1))) == 0 {
			return false
		}
	}
	return true
}

// modelBases looks at the parts in the order of binary numbers, and sorts those that are bases.
func modelBases(rows map[impl.Func][]int64, list []impl.Func) [][]int64 {
	var bases [][]int64
	for _, chosen := range allArguments(int64(len(list))) {
		var part []int64
		var funcs []impl.Func
		for place, v := range chosen {
			if v == 1 {
				part = append(part, int64(place))
				funcs = append(funcs, list[place])
			}
		}
		if modelBase(rows, funcs) {
			bases = append(bases, part)
		}
	}
	slices.SortFunc(bases, func(a, b []int64) int {
		if len(a) != len(b) {
			return len(a) - len(b)
		}
		return slices.Compare(a, b)
	})
	return bases
}

func equalParts(a, b [][]int64) bool {
	return slices.EqualFunc(a, b, func(x, y []int64) bool { return slices.Equal(x, y) })
}

func funcsByText(t *testing.T, texts ...string) []impl.Func {
	t.Helper()
	var list []impl.Func
	for _, text := range texts {
		list = append(list, parsed(t, text))
	}
	return list
}

// baseOfFour returns zero, one, minority and and: each of them is needed for a class.
func baseOfFour(t *testing.T) []impl.Func {
	return funcsByText(t, "0:0", "0:1", "3:01101001", "2:0001")
}

// someLists has all lists of up to two functions out of some of at most two arguments, and many lists
// of up to MaxList functions of all arities, some of them with a function twice.
func someLists(t *testing.T) [][]impl.Func {
	pool := append(funcsOf(0, 1), funcsOf(1, 1)...)
	pool = append(pool, funcsByText(t, "2:0001", "2:0111", "2:0110", "2:1110", "2:1011", "2:0101")...)
	lists := [][]impl.Func{nil, {}}
	for _, f := range pool {
		lists = append(lists, []impl.Func{f})
		for _, g := range pool {
			lists = append(lists, []impl.Func{f, g})
		}
	}
	wide := append(pool, baseOfFour(t)...)
	wide = append(wide, funcsByText(t, "3:00010111", "3:00011011", "4:0110100110010110", "4:1001011001101001", "4:0000000000000001")...)
	for step := range 40 {
		for length := 3; length <= impl.MaxList; length++ {
			var list []impl.Func
			for i := range length {
				list = append(list, wide[(step+i*(1+step/3)+i*i*(step%4))%len(wide)])
			}
			lists = append(lists, list)
		}
	}
	return lists
}

func TestMaxList(t *testing.T) {
	if impl.MaxList != 8 {
		t.Errorf("MaxList = %d", impl.MaxList)
	}
}

func TestClassRow(t *testing.T) {
	for f, want := range modelRows() {
		if got, code := impl.ClassRow(f); !slices.Equal(got, want) || code != impl.ErrNone {
			t.Fatalf("ClassRow(%v) = %v, %d, want %v", f, got, code, want)
		}
	}
	cases := map[string][]int64{
		"0:0": {1, 0, 0, 1, 1}, "0:1": {0, 1, 0, 1, 1},
		"1:01": {1, 1, 1, 1, 1}, "1:10": {0, 0, 1, 0, 1}, "1:00": {1, 0, 0, 1, 1}, "1:11": {0, 1, 0, 1, 1},
		"2:0001": {1, 1, 0, 1, 0}, "2:1110": {0, 0, 0, 0, 0}, "2:0110": {1, 0, 0, 0, 1}, "2:1011": {0, 1, 0, 0, 0},
		"3:00010111": {1, 1, 1, 1, 0}, "3:01101001": {1, 1, 1, 0, 1}, "3:00011011": {1, 1, 0, 0, 0},
		"4:0110100110010110": {1, 0, 0, 0, 1}, "4:1111111111111111": {0, 1, 0, 1, 1},
	}
	for text, want := range cases {
		if got, code := impl.ClassRow(parsed(t, text)); !slices.Equal(got, want) || code != impl.ErrNone {
			t.Errorf("ClassRow of %s = %v, %d, want %v", text, got, code, want)
		}
	}
}

func TestClassRowsTellMembership(t *testing.T) {
	for _, f := range allFuncs() {
		row, _ := impl.ClassRow(f)
		if len(row) != 5 {
			t.Fatalf("ClassRow(%v) = %v", f, row)
		}
		var classes []int64
		for k := range int64(5) {
			if in, code := impl.IsInClass(f, k); in != (row[k] == 1) || row[k] < 0 || row[k] > 1 || code != impl.ErrNone {
				t.Fatalf("IsInClass(%v, %d) = %v, %d, with the row %v", f, k, in, code, row)
			}
			if row[k] == 1 {
				classes = append(classes, k)
			}
		}
		if got, code := impl.ClassesOf([]impl.Func{f}); !slices.Equal(got, classes) || code != impl.ErrNone {
			t.Fatalf("ClassesOf of %v alone = %v, %d, with the row %v", f, got, code, row)
		}
	}
}

func TestIsInClassErrors(t *testing.T) {
	id := impl.Func{Arity: 1, Bits: 2}
	for _, k := range []int64{math.MinInt64, -1, 5, 6, 63, 64, 1 << 32, math.MaxInt64} {
		if in, code := impl.IsInClass(id, k); in || code != impl.ErrRange {
			t.Errorf("IsInClass(%v, %d) = %v, %d", id, k, in, code)
		}
	}
	for _, f := range brokenFuncs() {
		for _, k := range extremes {
			if in, code := impl.IsInClass(f, k); in || code != impl.ErrInvalid {
				t.Errorf("IsInClass(%v, %d) = %v, %d", f, k, in, code)
			}
		}
		if row, code := impl.ClassRow(f); len(row) != 0 || code != impl.ErrInvalid {
			t.Errorf("ClassRow(%v) = %v, %d", f, row, code)
		}
	}
}

func TestCountInClass(t *testing.T) {
	byDefinition := [5][5]int64{}
	for f, row := range modelRows() {
		for k, v := range row {
			byDefinition[k][f.Arity] += v
		}
	}
	for k := range int64(5) {
		for n := range int64(5) {
			got, code := impl.CountInClass(n, k)
			if got != byDefinition[k][n] || got != classCounts[k][n] || code != impl.ErrNone {
				t.Errorf("CountInClass(%d, %d) = %d, %d, by the definition %d, by the table %d", n, k, got, code, byDefinition[k][n], classCounts[k][n])
			}
		}
	}
	for _, n := range extremes {
		for _, k := range extremes {
			if n >= 0 && n <= 4 && k >= 0 && k <= 4 {
				continue
			}
			if got, code := impl.CountInClass(n, k); got != 0 || code != impl.ErrRange {
				t.Errorf("CountInClass(%d, %d) = %d, %d", n, k, got, code)
			}
		}
	}
}

func TestListsAgainstTheDefinitions(t *testing.T) {
	rows := modelRows()
	for _, list := range someLists(t) {
		classes := modelClasses(rows, list)
		if got, code := impl.ClassesOf(list); !slices.Equal(got, classes) || code != impl.ErrNone {
			t.Errorf("ClassesOf(%v) = %v, %d, want %v", list, got, code, classes)
		}
		if got, code := impl.IsComplete(list); got != (len(classes) == 0) || code != impl.ErrNone {
			t.Errorf("IsComplete(%v) = %v, %d", list, got, code)
		}
		if got, code := impl.IsBase(list); got != modelBase(rows, list) || code != impl.ErrNone {
			t.Errorf("IsBase(%v) = %v, %d", list, got, code)
		}
		bases := modelBases(rows, list)
		if got, code := impl.BasesOf(list); !equalParts(got, bases) || code != impl.ErrNone {
			t.Errorf("BasesOf(%v) = %v, %d, want %v", list, got, code, bases)
		}
	}
}

func TestEmptyList(t *testing.T) {
	for _, list := range [][]impl.Func{nil, {}} {
		if got, code := impl.ClassesOf(list); !slices.Equal(got, []int64{0, 1, 2, 3, 4}) || code != impl.ErrNone {
			t.Errorf("ClassesOf(%v) = %v, %d", list, got, code)
		}
		if got, code := impl.IsComplete(list); got || code != impl.ErrNone {
			t.Errorf("IsComplete(%v) = %v, %d", list, got, code)
		}
		if got, code := impl.IsBase(list); got || code != impl.ErrNone {
			t.Errorf("IsBase(%v) = %v, %d", list, got, code)
		}
		if got, code := impl.BasesOf(list); len(got) != 0 || code != impl.ErrNone {
			t.Errorf("BasesOf(%v) = %v, %d", list, got, code)
		}
	}
}

func TestCompleteListsAreInNoClass(t *testing.T) {
	for _, list := range someLists(t) {
		classes, _ := impl.ClassesOf(list)
		complete, _ := impl.IsComplete(list)
		if complete != (len(classes) == 0) {
			t.Errorf("IsComplete(%v) = %v, but the list is in %v", list, complete, classes)
		}
		for k := range int64(5) {
			all := true
			for _, f := range list {
				in, _ := impl.IsInClass(f, k)
				all = all && in
			}
			if complete && all {
				t.Errorf("the complete list %v is in the class %d", list, k)
			}
		}
	}
}

func TestBasesHaveAtMostFourFunctions(t *testing.T) {
	found := map[int]bool{}
	for _, list := range someLists(t) {
		bases, _ := impl.BasesOf(list)
		for _, part := range bases {
			var funcs []impl.Func
			for _, place := range part {
				funcs = append(funcs, list[place])
			}
			found[len(part)] = true
			if base, code := impl.IsBase(funcs); !base || code != impl.ErrNone || len(part) < 1 || len(part) > 4 {
				t.Errorf("BasesOf(%v) has %v, IsBase = %v, %d", list, part, base, code)
			}
		}
		if base, _ := impl.IsBase(list); base && len(list) > 4 {
			t.Errorf("IsBase(%v) with %d functions", list, len(list))
		}
	}
	if len(found) != 4 {
		t.Errorf("numbers of functions in bases: %v", found)
	}
}

func TestBases(t *testing.T) {
	cases := []struct {
		texts []string
		base  bool
		bases [][]int64
	}{
		{[]string{"2:1110"}, true, [][]int64{{0}}},
		{[]string{"2:1110", "2:1110"}, false, [][]int64{{0}, {1}}},
		{[]string{"2:0001", "1:10"}, true, [][]int64{{0, 1}}},
		{[]string{"2:0001", "1:10", "2:0001"}, false, [][]int64{{0, 1}, {1, 2}}},
		{[]string{"2:0001", "2:0110", "0:1"}, true, [][]int64{{0, 1, 2}}},
		{[]string{"2:0001", "2:0110", "0:1", "2:1110"}, false, [][]int64{{3}, {0, 1, 2}}},
		{[]string{"0:0", "0:1", "3:01101001", "2:0001"}, true, [][]int64{{0, 1, 2, 3}}},
		{[]string{"2:0001", "2:0111", "0:0", "0:1"}, false, nil},
		{[]string{"1:01", "2:1110"}, false, [][]int64{{1}}},
		{[]string{"2:1011", "2:0110"}, true, [][]int64{{0, 1}}},
		{[]string{"2:1011", "0:0"}, true, [][]int64{{0, 1}}},
	}
	for _, c := range cases {
		list := funcsByText(t, c.texts...)
		if got, code := impl.IsBase(list); got != c.base || code != impl.ErrNone {
			t.Errorf("IsBase of %v = %v, %d", c.texts, got, code)
		}
		if got, code := impl.BasesOf(list); !equalParts(got, c.bases) || code != impl.ErrNone {
			t.Errorf("BasesOf of %v = %v, %d, want %v", c.texts, got, code, c.bases)
		}
	}
}

func TestBasesOfTheLongestLists(t *testing.T) {
	four := baseOfFour(t)
	want := [][]int64{
		{0, 1, 2, 3}, {0, 1, 2, 7}, {0, 1, 3, 6}, {0, 1, 6, 7}, {0, 2, 3, 5}, {0, 2, 5, 7}, {0, 3, 5, 6}, {0, 5, 6, 7},
		{1, 2, 3, 4}, {1, 2, 4, 7}, {1, 3, 4, 6}, {1, 4, 6, 7}, {2, 3, 4, 5}, {2, 4, 5, 7}, {3, 4, 5, 6}, {4, 5, 6, 7},
	}
	if got, code := impl.BasesOf(slices.Concat(four, four)); !equalParts(got, want) || code != impl.ErrNone {
		t.Errorf("BasesOf of a base of four twice = %v, %d", got, code)
	}
	nands := slices.Repeat(funcsByText(t, "2:1110"), impl.MaxList)
	want = [][]int64{{0}, {1}, {2}, {3}, {4}, {5}, {6}, {7}}
	if got, code := impl.BasesOf(nands); !equalParts(got, want) || code != impl.ErrNone {
		t.Errorf("BasesOf of nand alone = %v, %d", got, code)
	}
	mixed := funcsByText(t, "2:1110", "2:0001", "1:10", "0:0", "0:1", "3:01101001", "2:0110", "2:1000")
	want = [][]int64{{0}, {7}, {1, 2}, {1, 4, 6}, {1, 3, 4, 5}}
	if got, code := impl.BasesOf(mixed); !equalParts(got, want) || code != impl.ErrNone {
		t.Errorf("BasesOf of a mixed list = %v, %d", got, code)
	}
}

// wantListCode checks the four functions of lists for a code, and zero values beside an error.
func wantListCode(t *testing.T, what string, list []impl.Func, want int64) {
	t.Helper()
	classes, a := impl.ClassesOf(list)
	complete, b := impl.IsComplete(list)
	base, c := impl.IsBase(list)
	bases, d := impl.BasesOf(list)
	if a != want || b != want || c != want || d != want {
		t.Errorf("%s: codes %d, %d, %d, %d, want %d", what, a, b, c, d, want)
	}
	if want != impl.ErrNone && (len(classes) != 0 || complete || base || len(bases) != 0) {
		t.Errorf("%s: %v, %v, %v, %v beside the code %d", what, classes, complete, base, bases, want)
	}
}

func TestListErrors(t *testing.T) {
	nand := impl.Func{Arity: 2, Bits: 7}
	wantListCode(t, "MaxList functions", slices.Repeat([]impl.Func{nand}, impl.MaxList), impl.ErrNone)
	for _, length := range []int{impl.MaxList + 1, impl.MaxList + 2, 16, 64, 1000} {
		list := slices.Repeat([]impl.Func{nand}, length)
		wantListCode(t, fmt.Sprint(length, " functions"), list, impl.ErrRange)
		wantListCode(t, fmt.Sprint(length, " constants"), make([]impl.Func, length), impl.ErrRange)
	}
	for _, f := range brokenFuncs() {
		wantListCode(t, fmt.Sprint(f, " alone"), []impl.Func{f}, impl.ErrInvalid)
		for _, length := range []int{2, impl.MaxList, impl.MaxList + 1, 100} {
			for _, place := range []int{0, length / 2, length - 1} {
				list := slices.Repeat([]impl.Func{nand}, length)
				list[place] = f
				wantListCode(t, fmt.Sprint(f, " at ", place, " of ", length), list, impl.ErrInvalid)
			}
		}
	}
}

func TestSheffer(t *testing.T) {
	rows := modelRows()
	byDefinition := make([]int64, 5)
	for _, f := range allFuncs() {
		want := modelBase(rows, []impl.Func{f})
		if want {
			byDefinition[f.Arity]++
		}
		got, code := impl.IsSheffer(f)
		if got != want || code != impl.ErrNone {
			t.Fatalf("IsSheffer(%v) = %v, %d", f, got, code)
		}
		if complete, _ := impl.IsComplete([]impl.Func{f}); complete != got {
			t.Fatalf("IsComplete of %v alone = %v", f, complete)
		}
		if row := rows[f]; got && (row[0] == 1 || row[1] == 1) {
			t.Fatalf("IsSheffer(%v) with the row %v", f, row)
		}
	}
	for n, want := range shefferCounts {
		if got, code := impl.CountSheffer(int64(n)); got != want || got != byDefinition[n] || code != impl.ErrNone {
			t.Errorf("CountSheffer(%d) = %d, %d, by the definition %d, by the table %d", n, got, code, byDefinition[n], want)
		}
	}
}

func TestShefferFunctions(t *testing.T) {
	rows := modelRows()
	for n := range int64(4) {
		var want []impl.Func
		for _, f := range funcsOf(n, 1) {
			if modelBase(rows, []impl.Func{f}) {
				want = append(want, f)
			}
		}
		if got, code := impl.ShefferFunctions(n); !slices.Equal(got, want) || code != impl.ErrNone {
			t.Errorf("ShefferFunctions(%d) = %v, %d, want %v", n, got, code, want)
		}
	}
	if got, _ := impl.ShefferFunctions(2); !slices.Equal(got, funcsByText(t, "2:1000", "2:1110")) {
		t.Errorf("ShefferFunctions(2) = %v", got)
	}
}

func TestShefferErrors(t *testing.T) {
	for _, n := range extremes {
		if got, code := impl.ShefferFunctions(n); (n < 0 || n > 3) && (len(got) != 0 || code != impl.ErrRange) {
			t.Errorf("ShefferFunctions(%d) = %d functions, %d", n, len(got), code)
		}
		if got, code := impl.CountSheffer(n); (n < 0 || n > 4) && (got != 0 || code != impl.ErrRange) {
			t.Errorf("CountSheffer(%d) = %d, %d", n, got, code)
		}
	}
	for _, f := range brokenFuncs() {
		if got, code := impl.IsSheffer(f); got || code != impl.ErrInvalid {
			t.Errorf("IsSheffer(%v) = %v, %d", f, got, code)
		}
	}
}

func TestDualsExchangeTheFirstTwoClasses(t *testing.T) {
	for _, f := range allFuncs() {
		dual, _ := impl.DualOf(f)
		row, _ := impl.ClassRow(f)
		other, _ := impl.ClassRow(dual)
		if len(row) != 5 || !slices.Equal(other, []int64{row[1], row[0], row[2], row[3], row[4]}) {
			t.Fatalf("ClassRow(%v) = %v, of the dual %v", f, row, other)
		}
	}
	for n := range int64(5) {
		zero, _ := impl.CountInClass(n, 0)
		one, _ := impl.CountInClass(n, 1)
		if zero != one {
			t.Errorf("of the arity %d, %d keep 0 and %d keep 1", n, zero, one)
		}
	}
}

func TestListsStayAsTheyAre(t *testing.T) {
	whole := append(baseOfFour(t), baseOfFour(t)...)
	kept := slices.Clone(whole)
	for length := range len(whole) + 1 {
		list := whole[:length]
		impl.ClassesOf(list)
		impl.IsComplete(list)
		impl.IsBase(list)
		impl.BasesOf(list)
		if !slices.Equal(whole, kept) {
			t.Fatalf("the list became %v", whole)
		}
	}
}

// spoil changes all numbers of a list, also those in its spare capacity.
func spoil(list []int64) {
	list = list[:cap(list)]
	for i := range list {
		list[i] = -7
	}
}

func TestClassResultsAreNewMemory(t *testing.T) {
	four := baseOfFour(t)
	list := slices.Concat(four, four)
	want, _ := impl.BasesOf(list)
	bases, _ := impl.BasesOf(list)
	for i := range bases {
		spoil(bases[i])
		for j := i + 1; j < len(bases); j++ {
			if !slices.Equal(bases[j], want[j]) {
				t.Fatalf("the part %d shares memory with the part %d", j, i)
			}
		}
	}
	if again, _ := impl.BasesOf(list); !equalParts(again, want) {
		t.Errorf("BasesOf after a change of its last result = %v", again)
	}
	row, _ := impl.ClassRow(four[0])
	spoil(row)
	if again, _ := impl.ClassRow(four[0]); !slices.Equal(again, []int64{1, 0, 0, 1, 1}) {
		t.Errorf("ClassRow after a change of its last result = %v", again)
	}
	classes, _ := impl.ClassesOf(nil)
	spoil(classes)
	if again, _ := impl.ClassesOf(nil); !slices.Equal(again, []int64{0, 1, 2, 3, 4}) {
		t.Errorf("ClassesOf after a change of its last result = %v", again)
	}
	sheffer, _ := impl.ShefferFunctions(2)
	clear(sheffer[:cap(sheffer)])
	if again, _ := impl.ShefferFunctions(2); !slices.Equal(again, funcsByText(t, "2:1000", "2:1110")) {
		t.Errorf("ShefferFunctions after a change of its last result = %v", again)
	}
}
