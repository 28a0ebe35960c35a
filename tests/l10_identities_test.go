package tests

import (
	"fmt"
	"slices"
	"strings"
	"sync"
	"testing"

	"loop.example/g01323/impl"
)

// valueOf takes the arguments one by one, as the identities of the document have them.
func valueOf(f impl.Func, arguments ...int64) int64 { return modelValue(f, arguments) }

func modelIdempotent(f impl.Func) bool {
	if f.Arity == 0 {
		return false
	}
	return valueOf(f, allEqual(f.Arity, 0)...) == 0 && valueOf(f, allEqual(f.Arity, 1)...) == 1
}

func modelSymmetric(f impl.Func) bool {
	values := modelValues(f)
	for a, some := range argumentLists[f.Arity] {
		for b, others := range argumentLists[f.Arity][:a] {
			if sumOf(some) == sumOf(others) && values[a] != values[b] {
				return false
			}
		}
	}
	return true
}

// forBoth reports whether an identity in x and y holds for any of them.
func forBoth(holds func(x, y int64) bool) bool {
	return holds(0, 0) && holds(0, 1) && holds(1, 0) && holds(1, 1)
}

func modelOfKind(f impl.Func, kind int64) bool {
	if f.Arity != 3 {
		return false
	}
	return forBoth(func(x, y int64) bool {
		switch kind {
		case 0:
			return valueOf(f, x, x, y) == x && valueOf(f, x, y, x) == x && valueOf(f, y, x, x) == x
		case 1:
			return valueOf(f, x, x, y) == y && valueOf(f, x, y, x) == y && valueOf(f, y, x, x) == y
		case 2:
			return valueOf(f, x, y, y) == x && valueOf(f, y, y, x) == x
		}
		return modelIdempotent(f) && modelSymmetric(f)
	})
}

func modelCommutative(f impl.Func) bool {
	return forBoth(func(x, y int64) bool { return valueOf(f, x, y) == valueOf(f, y, x) })
}

func modelAssociative(f impl.Func) bool {
	return forBoth(func(x, y int64) bool {
		for z := range int64(2) {
			if valueOf(f, x, valueOf(f, y, z)) != valueOf(f, valueOf(f, x, y), z) {
				return false
			}
		}
		return true
	})
}

func modelSemilattice(f impl.Func) bool {
	return f.Arity == 2 && modelIdempotent(f) && modelCommutative(f) && modelAssociative(f)
}

func modelNearUnanimity(f impl.Func) bool {
	if f.Arity < 3 {
		return false
	}
	for _, arguments := range argumentLists[f.Arity] {
		ones := sumOf(arguments)
		if ones <= 1 && modelValue(f, arguments) != 0 || f.Arity-ones <= 1 && modelValue(f, arguments) != 1 {
			return false
		}
	}
	return true
}

// modelCommute goes through all tables of numbers, and reads the arguments row by row and column by column.
func modelCommute(f, g impl.Func) bool {
	ofF, ofG := modelValues(f), modelValues(g)
	m, n := int(f.Arity), int(g.Arity)
	table := make([]int, m*n)
	for more := true; more; more = advance(table, 2) {
		atRows, power := int64(0), int64(1)
		for i := range m {
			atRows += ofG[numberOf(table, i*n, 1, n)] * power
			power *= 2
		}
		atColumns, power := int64(0), int64(1)
		for j := range n {
			atColumns += ofF[numberOf(table, j, n, m)] * power
			power *= 2
		}
		if ofF[atRows] != ofG[atColumns] {
			return false
		}
	}
	return true
}

// numberOf takes as many digits as told, the first one as the lowest, and goes from one to the next by a step.
func numberOf(digits []int, first int, step int, count int) int {
	number, power := 0, 1
	for k := range count {
		number += digits[first+k*step] * power
		power *= 2
	}
	return number
}

// commuteModel remembers the pairs that were looked at.
type commuteModel map[[2]impl.Func]bool

// modelCommuting is shared by the tests, which look at the same pairs again and again.
var modelCommuting = sync.OnceValue(func() commuteModel { return commuteModel{} })

func (m commuteModel) commute(f, g impl.Func) bool {
	pair := [2]impl.Func{f, g}
	if _, found := m[pair]; !found {
		m[pair] = modelCommute(f, g)
	}
	return m[pair]
}

func (m commuteModel) centraliser(list []impl.Func, n int64) []impl.Func {
	return slices.DeleteFunc(funcsOf(n, 1), func(g impl.Func) bool {
		return slices.ContainsFunc(list, func(f impl.Func) bool { return !m.commute(f, g) })
	})
}

func (m commuteModel) abelian(list []impl.Func) bool {
	for _, f := range list {
		for _, g := range list {
			if !m.commute(f, g) {
				return false
			}
		}
	}
	return true
}

// generatedOfThree puts functions of three arguments into those of a list until nothing new is made. Each
// function that is found is put in together with itself and all that were found before it.
func generatedOfThree(list []impl.Func) []impl.Func {
	var found [][]int64
	seen := make([]bool, 256)
	take := func(value func(row int) int64) {
		values := make([]int64, 8)
		bits, power := int64(0), int64(1)
		for row := range values {
			values[row] = value(row)
			bits += values[row] * power
			power *= 2
		}
		if !seen[bits] {
			seen[bits] = true
			found = append(found, values)
		}
	}
	for i := range 3 {
		take(func(row int) int64 { return argumentLists[3][row][i] })
	}
	for next := 0; next < len(found); next++ {
		for _, f := range list {
			values := modelValues(f)
			a := found[next]
			switch f.Arity {
			case 0:
				take(func(int) int64 { return values[0] })
			case 1:
				take(func(row int) int64 { return values[a[row]] })
			case 2:
				for _, b := range found[:next+1] {
					take(func(row int) int64 { return values[a[row]+2*b[row]] })
					take(func(row int) int64 { return values[b[row]+2*a[row]] })
				}
			}
		}
	}
	return slices.DeleteFunc(funcsOf(3, 1), func(f impl.Func) bool { return !seen[f.Bits] })
}

// someOfFour has functions of four arguments that commute with many others, and some that do not.
func someOfFour(t *testing.T) []impl.Func {
	return funcsByText(t,
		"4:0000000000000000", "4:1111111111111111", "4:0101010101010101", "4:0000000011111111", "4:1111000011110000",
		"4:0000000000000001", "4:0111111111111111", "4:0000010100000101", "4:0011001111111111",
		"4:0110100110010110", "4:1001011001101001", "4:0110011010011001", "4:0101101001011010",
		"4:0001011101111111", "4:0000000100010111", "4:0001000100011110", "4:0101001100110101", "4:1000000000000000")
}

// listsToCommute has lists of all lengths, of functions of all arities.
func listsToCommute(t *testing.T) [][]impl.Func {
	lists := slices.Concat(shortLists(), someLists(t), wideLists(t, 2), wideLists(t, 3), wideLists(t, 4))
	for _, f := range slices.Concat(funcsOf(3, 1), funcsOf(4, 1999), someOfFour(t)) {
		lists = append(lists, []impl.Func{f})
	}
	pool := append(funcsByText(t, "3:00010111", "3:01101001", "3:00000001", "3:01111111", "3:00011011", "3:10010110", "1:10", "0:0"), someOfFour(t)...)
	for i, f := range pool {
		if i%5 == 0 {
			lists = append(lists, slices.Repeat([]impl.Func{f}, impl.MaxList))
		}
		for _, g := range pool[:i] {
			lists = append(lists, []impl.Func{f, g})
		}
	}
	return lists
}

func TestIdentitiesAgainstTheDefinition(t *testing.T) {
	eachFunc(t, func(f impl.Func, _ rowModel) {
		wantAnswer(t, "IsIdempotent", f, modelIdempotent(f), impl.ErrNone)(impl.IsIdempotent(f))
		wantAnswer(t, "IsSymmetric", f, modelSymmetric(f), impl.ErrNone)(impl.IsSymmetric(f))
		wantAnswer(t, "IsSemilattice", f, modelSemilattice(f), impl.ErrNone)(impl.IsSemilattice(f))
		wantAnswer(t, "HasNearUnanimity", f, modelNearUnanimity(f), impl.ErrNone)(impl.HasNearUnanimity(f))
		for kind := range int64(4) {
			wantAnswer(t, fmt.Sprint("IsOfKind ", kind), f, modelOfKind(f, kind), impl.ErrNone)(impl.IsOfKind(f, kind))
		}
	})
}

func TestIsIdempotentAndIsSymmetric(t *testing.T) {
	cases := map[string][2]bool{
		"0:0": {false, true}, "0:1": {false, true},
		"1:00": {false, true}, "1:01": {true, true}, "1:10": {false, true}, "1:11": {false, true},
		"2:0001": {true, true}, "2:0111": {true, true}, "2:0101": {true, false}, "2:0011": {true, false}, "2:0110": {false, true}, "2:1001": {false, true}, "2:1011": {false, false}, "2:0100": {false, false}, "2:1110": {false, true},
		"3:00010111": {true, true}, "3:01101001": {true, true}, "3:00011011": {true, false}, "3:10010110": {false, true}, "3:01111110": {false, true}, "3:00000000": {false, true}, "3:11111111": {false, true}, "3:00010011": {true, false}, "3:01101011": {true, false},
		"4:0001011101111111": {true, true}, "4:0000000000000001": {true, true}, "4:0110100110010110": {false, true}, "4:0000000011111111": {true, false}, "4:0001011001101001": {true, true}, "4:0001011001101000": {false, true}, "4:1001011001101001": {false, true}, "4:0001011001101011": {true, false}, "4:1111111111111111": {false, true},
	}
	for text, want := range cases {
		f := parsed(t, text)
		wantAnswer(t, "IsIdempotent", f, want[0], impl.ErrNone)(impl.IsIdempotent(f))
		wantAnswer(t, "IsSymmetric", f, want[1], impl.ErrNone)(impl.IsSymmetric(f))
	}
}

// kindsOfTexts has the functions of three arguments that are of some kind.
var kindsOfTexts = map[string]string{
	"3:00010111": "0 3",
	"3:01101001": "1 2 3",
	"3:01001001": "2", "3:01001101": "2", "3:01101101": "2",
	"3:00000001": "3", "3:01111111": "3",
}

func wantKinds(t *testing.T, f impl.Func, want string) {
	t.Helper()
	var kinds []string
	for kind := range int64(4) {
		isOfKind, code := impl.IsOfKind(f, kind)
		if code != impl.ErrNone {
			t.Errorf("IsOfKind(%v, %d): code %d", f, kind, code)
		}
		if isOfKind {
			kinds = append(kinds, fmt.Sprint(kind))
		}
	}
	if got := strings.Join(kinds, " "); got != want {
		t.Errorf("%v is of the kinds %q, want %q", f, got, want)
	}
}

func TestIsOfKind(t *testing.T) {
	for _, f := range allFuncs() {
		text, _ := impl.FuncText(f)
		wantKinds(t, f, kindsOfTexts[text])
	}
}

// TestKindsMissedInOneRow changes functions of the kinds in one row: they stay of a kind only where this does not
// tell the value.
func TestKindsMissedInOneRow(t *testing.T) {
	free := [][]int64{0: nil, 1: nil, 2: {2, 5}, 3: nil}
	for text, kinds := range kindsOfTexts {
		f := parsed(t, text)
		for row := range int64(8) {
			changed := impl.Func{Arity: 3, Bits: f.Bits ^ 1<<row}
			for kind := range int64(4) {
				if strings.Contains(kinds, fmt.Sprint(kind)) {
					want := slices.Contains(free[kind], row)
					wantAnswer(t, fmt.Sprint("IsOfKind ", kind), changed, want, impl.ErrNone)(impl.IsOfKind(changed, kind))
				}
			}
		}
	}
}

// TestKindsOfOtherAritiesAreNone has what would be of the kinds with an argument more or less.
func TestKindsOfOtherAritiesAreNone(t *testing.T) {
	for _, text := range []string{"0:0", "0:1", "1:01", "1:10", "2:0001", "2:0111", "2:0101", "4:0001011101111111", "4:0000000000000001", "4:0001011100010111", "4:0110100101101001", "4:0110100110010110"} {
		wantKinds(t, parsed(t, text), "")
	}
	for text := range kindsOfTexts {
		wide, code := impl.WidenFunc(parsed(t, text))
		if code != impl.ErrNone {
			t.Fatalf("WidenFunc of %s: code %d", text, code)
		}
		wantKinds(t, wide, "")
	}
}

// TestFunctionsOfTheKindsAreIdempotent has them in all clones that a named function generates, too.
func TestFunctionsOfTheKindsAreIdempotent(t *testing.T) {
	number := 0
	for _, f := range allFuncs() {
		for kind := range int64(4) {
			if isOfKind, _ := impl.IsOfKind(f, kind); isOfKind {
				number++
				wantAnswer(t, "IsIdempotent", f, true, impl.ErrNone)(impl.IsIdempotent(f))
			}
		}
	}
	if number != 10 {
		t.Errorf("%d times a function is of a kind", number)
	}
	for _, list := range every(shortLists(), 3) {
		for kind := range int64(4) {
			if f, code := impl.FindOfKind(list, kind); code == impl.ErrNone {
				wantAnswer(t, "IsIdempotent", f, true, impl.ErrNone)(impl.IsIdempotent(f))
			}
		}
	}
}

func TestIsSemilattice(t *testing.T) {
	for _, f := range allFuncs() {
		text, _ := impl.FuncText(f)
		want := text == "2:0001" || text == "2:0111"
		wantAnswer(t, "IsSemilattice", f, want, impl.ErrNone)(impl.IsSemilattice(f))
	}
}

// TestSemilatticesButOneIdentity has functions for which just one of the three identities fails. The last one
// alone never fails.
func TestSemilatticesButOneIdentity(t *testing.T) {
	missing := map[string][]string{
		"idempotent":  {"2:0000", "2:0110", "2:1001", "2:1111"},
		"commutative": {"2:0101", "2:0011"},
		"associative": nil,
	}
	found := map[string][]string{}
	for _, f := range funcsOf(2, 1) {
		var fails []string
		for name, holds := range map[string]bool{"idempotent": modelIdempotent(f), "commutative": modelCommutative(f), "associative": modelAssociative(f)} {
			if !holds {
				fails = append(fails, name)
			}
		}
		if len(fails) == 1 {
			text, _ := impl.FuncText(f)
			found[fails[0]] = append(found[fails[0]], text)
			wantAnswer(t, "IsSemilattice", f, false, impl.ErrNone)(impl.IsSemilattice(f))
		}
	}
	for name, texts := range missing {
		slices.Sort(texts)
		slices.Sort(found[name])
		if !slices.Equal(found[name], texts) {
			t.Errorf("all but %s are %v, want %v", name, found[name], texts)
		}
	}
}

func TestHasNearUnanimity(t *testing.T) {
	cases := map[string]bool{
		"0:0": false, "0:1": false, "1:01": false, "2:0001": false, "2:0111": false, "2:0101": false,
		"3:00010111": true, "3:01101001": false, "3:00011011": false, "3:00000001": false, "3:01111111": false, "3:11101000": false, "3:00000000": false,
		"4:0001011101111111": true, "4:0000000100010111": true, "4:0000000100011111": true, "4:0001000100010111": true, "4:0000000000000001": false, "4:0111111111111111": false, "4:0110100110010110": false, "4:0101010101010101": false, "4:0001011100010111": true, "4:0000000000000000": false, "4:1111111111111111": false,
	}
	for text, want := range cases {
		f := parsed(t, text)
		wantAnswer(t, "HasNearUnanimity", f, want, impl.ErrNone)(impl.HasNearUnanimity(f))
	}
}

// TestNearUnanimityMissedInOneRow changes functions with near unanimity in one row: they keep it only if half of
// the four arguments are 1 there.
func TestNearUnanimityMissedInOneRow(t *testing.T) {
	for n := int64(3); n <= 4; n++ {
		number := 0
		for _, f := range funcsOf(n, 1) {
			if !modelNearUnanimity(f) {
				continue
			}
			number++
			for row, arguments := range argumentLists[n] {
				changed := impl.Func{Arity: n, Bits: f.Bits ^ 1<<row}
				want := n == 4 && sumOf(arguments) == 2
				wantAnswer(t, "HasNearUnanimity", changed, want, impl.ErrNone)(impl.HasNearUnanimity(changed))
			}
		}
		if want := map[int64]int{3: 1, 4: 64}[n]; number != want {
			t.Errorf("%d functions of the arity %d have near unanimity, want %d", number, n, want)
		}
	}
}

func TestKindCountsAgainstTheDefinition(t *testing.T) {
	for n := range int64(impl.MaxArity + 1) {
		want := make([]int64, 4)
		for _, f := range funcsOf(n, 1) {
			idempotent, symmetric := modelIdempotent(f), modelSymmetric(f)
			for k, holds := range []bool{idempotent, symmetric, idempotent && symmetric, modelNearUnanimity(f)} {
				if holds {
					want[k]++
				}
			}
		}
		wantList(t, fmt.Sprint("KindCounts of ", n), want, impl.ErrNone)(impl.KindCounts(n))
	}
}

func TestKindCounts(t *testing.T) {
	for n, want := range [][]int64{{0, 2, 0, 0}, {1, 4, 1, 0}, {4, 8, 2, 0}, {64, 16, 4, 1}, {16384, 32, 8, 64}} {
		wantList(t, fmt.Sprint("KindCounts of ", n), want, impl.ErrNone)(impl.KindCounts(int64(n)))
	}
	for _, n := range append(extremes, -2, impl.MaxArity+1, 6) {
		if n < 0 || n > impl.MaxArity {
			wantList(t, fmt.Sprint("KindCounts of ", n), nil, impl.ErrRange)(impl.KindCounts(n))
		}
	}
}

func wantFound(t *testing.T, list []impl.Func, kind int64, want impl.Func, wantCode int64) {
	t.Helper()
	wantFunc(t, fmt.Sprint("FindOfKind of ", list, " and ", kind), want, wantCode)(impl.FindOfKind(list, kind))
}

// TestFindOfKindAgainstTheDefinition looks through all functions that a list generates.
func TestFindOfKindAgainstTheDefinition(t *testing.T) {
	for _, list := range slices.Concat(shortLists(), wideLists(t, 2)) {
		generated := generatedOfThree(list)
		for kind := range int64(4) {
			first := slices.IndexFunc(generated, func(f impl.Func) bool { return modelOfKind(f, kind) })
			if first < 0 {
				wantFound(t, list, kind, impl.Func{}, impl.ErrNotFound)
			} else {
				wantFound(t, list, kind, generated[first], impl.ErrNone)
			}
		}
	}
}

func TestFindOfKind(t *testing.T) {
	const (
		none                     = ""
		majority                 = "3:00010111"
		minority                 = "3:01101001"
		turning                  = "3:01001001"
		conjunction, disjunction = "3:00000001", "3:01111111"
	)
	cases := []struct {
		texts []string
		want  [4]string
	}{
		{nil, [4]string{none, none, none, none}},
		{[]string{"0:0", "0:1"}, [4]string{none, none, none, none}},
		{[]string{"1:10"}, [4]string{none, none, none, none}},
		{[]string{"1:10", "0:1", "1:00", "2:1010"}, [4]string{none, none, none, none}},
		{[]string{"2:0001"}, [4]string{none, none, none, conjunction}},
		{[]string{"2:0111"}, [4]string{none, none, none, disjunction}},
		{[]string{"2:0111", "0:0", "0:1"}, [4]string{none, none, none, disjunction}},
		{[]string{"2:0001", "2:0111"}, [4]string{majority, none, none, conjunction}},
		{[]string{"2:0111", "2:0001", "0:1", "0:0"}, [4]string{majority, none, none, conjunction}},
		{[]string{"2:0110"}, [4]string{none, minority, minority, minority}},
		{[]string{"2:1001"}, [4]string{none, minority, minority, minority}},
		{[]string{"2:0110", "0:1"}, [4]string{none, minority, minority, minority}},
		{[]string{"2:0110", "2:0001"}, [4]string{majority, minority, turning, conjunction}},
		{[]string{"2:1001", "2:0111"}, [4]string{majority, minority, turning, conjunction}},
		{[]string{"2:1110"}, [4]string{majority, minority, turning, conjunction}},
		{[]string{"2:1000"}, [4]string{majority, minority, turning, conjunction}},
		{[]string{"2:0001", "1:10"}, [4]string{majority, minority, turning, conjunction}},
		{[]string{"2:1011"}, [4]string{none, none, none, disjunction}},
		{[]string{"2:0100"}, [4]string{none, none, none, conjunction}},
		{[]string{"2:1011", "0:0"}, [4]string{majority, minority, turning, conjunction}},
		{[]string{"2:1110", "2:1110", "2:1110", "2:1110", "2:1110", "2:1110", "2:1110", "2:1110"}, [4]string{majority, minority, turning, conjunction}},
		{[]string{"1:01", "1:01", "1:01", "1:01", "1:01", "1:01", "1:01", "2:0110"}, [4]string{none, minority, minority, minority}},
	}
	for _, c := range cases {
		list := funcsByText(t, c.texts...)
		for kind, text := range c.want {
			if text == none {
				wantFound(t, list, int64(kind), impl.Func{}, impl.ErrNotFound)
			} else {
				wantFound(t, list, int64(kind), parsed(t, text), impl.ErrNone)
			}
		}
	}
}

// TestFoundFunctionsAreOfTheirKinds goes by what the program's own functions tell.
func TestFoundFunctionsAreOfTheirKinds(t *testing.T) {
	for _, list := range append(every(shortLists(), 5), wideLists(t, 2)...) {
		for kind := range int64(4) {
			found, code := impl.FindOfKind(list, kind)
			if code == impl.ErrNotFound {
				continue
			}
			wantAnswer(t, fmt.Sprint("IsOfKind ", kind), found, true, impl.ErrNone)(impl.IsOfKind(found, kind))
			wantAnswer(t, fmt.Sprint("IsGenerated of ", list), found, true, impl.ErrNone)(impl.IsGenerated(list, found))
		}
	}
}

// TestMajoritiesAreGeneratedWithD2Below holds chapter 10 against chapter 8.
func TestMajoritiesAreGeneratedWithD2Below(t *testing.T) {
	both := [2]int{}
	for _, list := range slices.Concat(shortLists(), wideLists(t, 2)) {
		name, _ := impl.CloneName(list)
		isBelow, code := impl.IsBelow("D2", name)
		if code != impl.ErrNone {
			t.Errorf("IsBelow D2 and %s: code %d", name, code)
		}
		_, code = impl.FindOfKind(list, 0)
		if isBelow && code != impl.ErrNone || !isBelow && code != impl.ErrNotFound {
			t.Errorf("D2 below %s, the clone of %v, is %v, and FindOfKind has the code %d", name, list, isBelow, code)
		}
		both[code/impl.ErrNotFound]++
	}
	if both[0] < 100 || both[1] < 100 {
		t.Errorf("majorities are generated %d times, and %d times not", both[0], both[1])
	}
}

// wantCommuting checks AreCommuting for good functions, both ways.
func wantCommuting(t *testing.T, f, g impl.Func, want bool) {
	t.Helper()
	wantAnswer(t, fmt.Sprint("AreCommuting with ", g), f, want, impl.ErrNone)(impl.AreCommuting(f, g))
	wantAnswer(t, fmt.Sprint("AreCommuting with ", f), g, want, impl.ErrNone)(impl.AreCommuting(g, f))
}

func TestAreCommutingAgainstTheDefinition(t *testing.T) {
	check := func(some, others []impl.Func) {
		for _, f := range some {
			for _, g := range others {
				wantCommuting(t, f, g, modelCommute(f, g))
			}
		}
	}
	small := upToArity(3)
	for i, f := range small {
		check([]impl.Func{f}, small[:i+1])
	}
	check(funcsOf(4, 1), upToArity(1))
	check(funcsOf(4, 97), funcsOf(2, 1))
	check(funcsOf(4, 997), funcsOf(3, 11))
	check(funcsOf(4, 1999), funcsOf(4, 2003))
	check(someOfFour(t), upToArity(3))
	check(someOfFour(t), someOfFour(t))
}

func TestAreCommuting(t *testing.T) {
	cases := []struct {
		f, g string
		want bool
	}{
		{"0:0", "0:0", true}, {"0:1", "0:1", true}, {"0:0", "0:1", false},
		{"0:0", "1:01", true}, {"0:0", "1:00", true}, {"0:0", "1:11", false}, {"0:0", "1:10", false}, {"0:1", "1:10", false}, {"0:1", "1:11", true}, {"0:1", "1:00", false},
		{"0:0", "2:0001", true}, {"0:1", "2:0001", true}, {"0:0", "2:0110", true}, {"0:1", "2:0110", false}, {"0:0", "2:1001", false}, {"0:1", "2:1001", true}, {"0:0", "2:1110", false}, {"0:1", "2:1110", false},
		{"0:0", "3:00010111", true}, {"0:1", "3:00010110", false}, {"0:0", "4:0110100110010110", true}, {"0:1", "4:0110100110010110", false}, {"0:1", "4:1111111111111111", true}, {"0:0", "4:1111111111111111", false},
		{"1:10", "1:10", true}, {"1:10", "1:01", true}, {"1:10", "1:00", false}, {"1:00", "1:11", false}, {"1:00", "1:00", true}, {"1:10", "2:0001", false}, {"1:10", "2:0110", false}, {"1:10", "3:01101001", true}, {"1:10", "3:00010111", true}, {"1:10", "3:00011011", false}, {"1:10", "3:01110001", true}, {"1:11", "2:0001", true}, {"1:00", "2:0001", true},
		{"2:0001", "2:0001", true}, {"2:0111", "2:0111", true}, {"2:0001", "2:0111", false}, {"2:0110", "2:0110", true}, {"2:1001", "2:1001", true}, {"2:0110", "2:1001", false}, {"2:0110", "2:0001", false}, {"2:1110", "2:1110", false}, {"2:1011", "2:1011", false}, {"2:0100", "2:0100", false},
		{"2:0101", "2:0011", true}, {"2:0101", "2:1110", true}, {"2:0011", "3:00011011", true}, {"2:1010", "2:1010", true}, {"2:1010", "2:1100", true}, {"2:1010", "2:0001", false}, {"2:1010", "3:00010111", true},
		{"3:00010111", "3:00010111", false}, {"3:01101001", "3:01101001", true}, {"3:00010111", "3:01101001", false}, {"3:00011011", "3:00011011", false}, {"3:00000001", "2:0001", true}, {"3:00000001", "3:00000001", true}, {"3:01111111", "2:0111", true}, {"3:01111111", "2:0001", false}, {"3:10010110", "3:01101001", true}, {"3:10010110", "1:10", true}, {"3:10010110", "0:0", false}, {"3:00001111", "3:00010111", true},
		{"4:0000000000000001", "2:0001", true}, {"4:0000000000000001", "4:0000000000000001", true}, {"4:0111111111111111", "4:0111111111111111", true}, {"4:0111111111111111", "4:0000000000000001", false}, {"4:0110100110010110", "4:0110100110010110", true}, {"4:0110100110010110", "3:01101001", true}, {"4:0110100110010110", "4:1001011001101001", false}, {"4:1001011001101001", "4:1001011001101001", true}, {"4:0001011101111111", "4:0001011101111111", false}, {"4:0101010101010101", "4:0001011101111111", true}, {"4:0000000011111111", "4:1000000000000000", true}, {"4:1111000011110000", "4:1000000000000000", false}, {"4:1111000011110000", "3:00010111", true},
	}
	for _, c := range cases {
		wantCommuting(t, parsed(t, c.f), parsed(t, c.g), c.want)
	}
}

// TestCommutingMissedInOneRow has functions that differ in one row alone from one that commutes with itself.
func TestCommutingMissedInOneRow(t *testing.T) {
	for _, text := range []string{"4:0000000000000001", "4:0110100110010110", "4:0101010101010101"} {
		f := parsed(t, text)
		wantCommuting(t, f, f, true)
		for row := range int64(16) {
			changed := impl.Func{Arity: 4, Bits: f.Bits ^ 1<<row}
			wantCommuting(t, f, changed, modelCommute(f, changed))
			wantCommuting(t, changed, changed, modelCommute(changed, changed))
		}
	}
}

// TestFunctionsCommuteBothWays goes by what the program's own functions tell.
func TestFunctionsCommuteBothWays(t *testing.T) {
	list := append(smallAndSomeLarge(), someOfFour(t)...)
	for i, f := range list {
		for j := i % 3; j < i; j += 3 {
			g := list[j]
			one, code := impl.AreCommuting(f, g)
			if code != impl.ErrNone {
				t.Errorf("AreCommuting(%v, %v): code %d", f, g, code)
			}
			wantAnswer(t, fmt.Sprint("AreCommuting with ", f), g, one, impl.ErrNone)(impl.AreCommuting(g, f))
		}
	}
}

func TestProjectionsCommuteWithAll(t *testing.T) {
	for n := int64(1); n <= impl.MaxArity; n++ {
		for i := range n {
			projection, _ := impl.ProjectionOf(n, i)
			for _, f := range slices.Concat(upToArity(3), funcsOf(4, 509), someOfFour(t)) {
				wantCommuting(t, projection, f, true)
			}
		}
	}
}

// TestGraphsAreKeptByFunctionsThatCommute holds chapter 10 against chapter 6.
func TestGraphsAreKeptByFunctionsThatCommute(t *testing.T) {
	for _, g := range upToArity(3) {
		graph, code := impl.GraphOf(g)
		if code != impl.ErrNone {
			t.Fatalf("GraphOf(%v): code %d", g, code)
		}
		for _, f := range slices.Concat(upToArity(3), funcsOf(4, 251), someOfFour(t)) {
			keeps, code := impl.KeepsRelation(f, graph)
			if code != impl.ErrNone {
				t.Errorf("KeepsRelation(%v, %v): code %d", f, graph, code)
			}
			wantAnswer(t, fmt.Sprint("AreCommuting with ", g), f, keeps, impl.ErrNone)(impl.AreCommuting(f, g))
		}
	}
}

// centraliserCounts has for each function with a name how many functions of the arities 0 to 4 commute with it. With
// and there are the conjunctions of some variables and the constant 0, for example, with xor the sums of some
// variables, with minority all affine functions, with nand the projections, and with if the constants, too.
var centraliserCounts = map[string][5]int64{
	"zero": {1, 2, 8, 128, 32768}, "one": {1, 2, 8, 128, 32768}, "id": {2, 4, 16, 256, 65536}, "not": {0, 2, 4, 16, 256},
	"and": {2, 3, 5, 9, 17}, "or": {2, 3, 5, 9, 17}, "xor": {1, 2, 4, 8, 16}, "equal": {1, 2, 4, 8, 16},
	"nand": {0, 1, 2, 3, 4}, "nor": {0, 1, 2, 3, 4}, "imply": {1, 2, 3, 4, 5},
	"majority": {2, 4, 6, 8, 10}, "minority": {2, 4, 8, 16, 32}, "if": {2, 3, 4, 5, 6},
}

func TestNumbersOfCommutingFunctions(t *testing.T) {
	for name, counts := range centraliserCounts {
		f, code := impl.NamedFunc(name)
		if code != impl.ErrNone {
			t.Fatalf("NamedFunc(%q): code %d", name, code)
		}
		for n, want := range counts {
			got := int64(0)
			for _, g := range funcsOf(int64(n), 1) {
				if commute, _ := impl.AreCommuting(f, g); commute {
					got++
				}
			}
			if got != want {
				t.Errorf("%d functions of the arity %d commute with %s, want %d", got, n, name, want)
			}
			if n <= 3 {
				centraliser, code := impl.CentraliserOf([]impl.Func{f}, int64(n))
				wantCount(t, fmt.Sprint("the number of CentraliserOf ", name, " and ", n), want, impl.ErrNone)(int64(len(centraliser)), code)
			}
		}
	}
}

func wantCentraliser(t *testing.T, list []impl.Func, n int64, want []impl.Func, wantCode int64) {
	t.Helper()
	wantFuncs(t, fmt.Sprint("CentraliserOf ", list, " and ", n), want, wantCode)(impl.CentraliserOf(list, n))
}

func TestCentraliserOfAgainstTheDefinition(t *testing.T) {
	m := modelCommuting()
	for _, list := range listsToCommute(t) {
		for n := range int64(4) {
			wantCentraliser(t, list, n, m.centraliser(list, n), impl.ErrNone)
		}
	}
}

func TestCentraliserOf(t *testing.T) {
	cases := []struct {
		texts []string
		n     int64
		want  []string
	}{
		{nil, 0, []string{"0:0", "0:1"}},
		{nil, 1, []string{"1:00", "1:10", "1:01", "1:11"}},
		{[]string{"0:0"}, 0, []string{"0:0"}}, {[]string{"0:1"}, 0, []string{"0:1"}}, {[]string{"0:0", "0:1"}, 0, nil},
		{[]string{"0:0"}, 1, []string{"1:00", "1:01"}}, {[]string{"0:1"}, 1, []string{"1:01", "1:11"}}, {[]string{"0:1", "0:0"}, 1, []string{"1:01"}},
		{[]string{"1:10"}, 0, nil}, {[]string{"1:10"}, 1, []string{"1:10", "1:01"}}, {[]string{"1:10"}, 2, []string{"2:1100", "2:1010", "2:0101", "2:0011"}},
		{[]string{"2:0001"}, 0, []string{"0:0", "0:1"}}, {[]string{"2:0001"}, 1, []string{"1:00", "1:01", "1:11"}}, {[]string{"2:0001"}, 2, []string{"2:0000", "2:0001", "2:0101", "2:0011", "2:1111"}},
		{[]string{"2:0001", "2:0111"}, 2, []string{"2:0000", "2:0101", "2:0011", "2:1111"}},
		{[]string{"2:1110"}, 0, nil}, {[]string{"2:1110"}, 3, []string{"3:01010101", "3:00110011", "3:00001111"}},
		{[]string{"2:0110"}, 0, []string{"0:0"}}, {[]string{"2:0110"}, 2, []string{"2:0000", "2:0110", "2:0101", "2:0011"}},
		{[]string{"3:00010111"}, 1, []string{"1:00", "1:10", "1:01", "1:11"}},
		{[]string{"3:00010111"}, 3, []string{"3:00000000", "3:11110000", "3:11001100", "3:10101010", "3:01010101", "3:00110011", "3:00001111", "3:11111111"}},
		{[]string{"4:0000000000000001"}, 2, []string{"2:0000", "2:0001", "2:0101", "2:0011", "2:1111"}},
		{[]string{"4:0110100110010110", "0:0"}, 1, []string{"1:00", "1:01"}},
	}
	for _, c := range cases {
		wantCentraliser(t, funcsByText(t, c.texts...), c.n, funcsByText(t, c.want...), impl.ErrNone)
	}
}

// TestCentralisersOfProjections has lists with which all functions commute, the empty one and the longest one
// among them.
func TestCentralisersOfProjections(t *testing.T) {
	lists := [][]impl.Func{nil, {}, funcsByText(t, "1:01"), funcsByText(t, "2:0101", "3:00001111")}
	lists = append(lists, slices.Repeat(funcsByText(t, "4:0101010101010101"), impl.MaxList))
	lists = append(lists, slices.Repeat(funcsByText(t, "4:0101010101010101", "4:0011001100110011", "4:0000111100001111", "4:0000000011111111"), 2))
	for _, list := range lists {
		for n := range int64(4) {
			wantCentraliser(t, list, n, funcsOf(n, 1), impl.ErrNone)
		}
	}
}

// TestCentralisersCommuteWithTheirLists goes by what the program's own functions tell.
func TestCentralisersCommuteWithTheirLists(t *testing.T) {
	for _, list := range every(listsToCommute(t), 3) {
		for n := range int64(4) {
			centraliser, code := impl.CentraliserOf(list, n)
			if code != impl.ErrNone {
				t.Errorf("CentraliserOf(%v, %d): code %d", list, n, code)
			}
			for _, g := range every(centraliser, 5) {
				for _, f := range list {
					wantAnswer(t, fmt.Sprint("AreCommuting with ", g), f, true, impl.ErrNone)(impl.AreCommuting(f, g))
				}
			}
		}
	}
}

// TestTheOrderOfAListDoesNotMatterForItsCentraliser turns lists round, and has their first functions twice.
func TestTheOrderOfAListDoesNotMatterForItsCentraliser(t *testing.T) {
	for _, list := range every(listsToCommute(t), 5) {
		turned := slices.Clone(list)
		slices.Reverse(turned)
		if len(list) > 0 && len(list) < impl.MaxList {
			turned = append(turned, list[0])
		}
		want, _ := impl.CentraliserOf(list, 2)
		wantCentraliser(t, turned, 2, want, impl.ErrNone)
		abelian, _ := impl.IsAbelian(list)
		wantAbelian(t, turned, abelian, impl.ErrNone)
	}
}

func wantAbelian(t *testing.T, list []impl.Func, want bool, wantCode int64) {
	t.Helper()
	if got, code := impl.IsAbelian(list); got != want || code != wantCode {
		t.Errorf("IsAbelian(%v) = %v, %d, want %v, %d", list, got, code, want, wantCode)
	}
}

func TestIsAbelianAgainstTheDefinition(t *testing.T) {
	m := modelCommuting()
	for _, list := range listsToCommute(t) {
		wantAbelian(t, list, m.abelian(list), impl.ErrNone)
	}
}

func TestIsAbelian(t *testing.T) {
	cases := []struct {
		want  bool
		lists [][]string
	}{
		{true, [][]string{
			nil, {"0:0"}, {"0:1", "0:1"}, {"1:10"}, {"2:0001"}, {"2:0111", "0:0"}, {"2:0111", "0:1"}, {"2:0110", "0:0"}, {"2:1001", "0:1"}, {"3:01101001", "1:10"},
			{"2:0101", "2:0011", "3:00001111", "4:0000000011111111", "1:01"}, {"2:0001", "3:00000001", "4:0000000000000001", "1:00", "0:0", "2:0101", "3:00000000", "2:0001"}, {"1:11", "3:00000001", "0:1", "4:0000010100000101"},
			{"2:0111", "2:0111", "2:0111", "2:0111", "2:0111", "2:0111", "2:0111", "2:0111"}, {"4:0110100110010110", "3:01101001", "2:0110", "1:00"},
		}},
		// A function that does not commute with itself.
		{false, [][]string{
			{"2:1110"}, {"2:1011"}, {"2:0100"}, {"3:00010111"}, {"3:00011011"}, {"4:0001011101111111"}, {"4:1000000000000000"},
			{"2:0101", "2:0011", "1:01", "1:01", "1:01", "1:01", "1:01", "2:1110"}, {"2:1110", "2:0101", "2:0011", "1:01", "1:01", "1:01", "1:01", "1:01"},
		}},
	}
	for _, c := range cases {
		for _, texts := range c.lists {
			wantAbelian(t, funcsByText(t, texts...), c.want, impl.ErrNone)
		}
	}
}

// TestListsThatAreAbelianFunctionByFunction has lists whose functions commute with themselves, but not all of
// them with each other.
func TestListsThatAreAbelianFunctionByFunction(t *testing.T) {
	for _, texts := range [][]string{
		{"0:0", "0:1"}, {"0:0", "1:10"}, {"1:10", "0:1"}, {"1:00", "1:11"}, {"2:0001", "2:0111"}, {"2:0001", "1:10"}, {"2:0110", "0:1"}, {"2:0110", "2:1001"}, {"3:01101001", "2:0001"}, {"4:0110100110010110", "4:0000000000000001"},
		{"2:0001", "2:0001", "2:0001", "2:0001", "2:0001", "2:0001", "2:0001", "2:0111"}, {"2:0111", "2:0001", "2:0001", "2:0001", "2:0001", "2:0001", "2:0001", "2:0001"},
		{"1:01", "2:0101", "0:0", "2:0001", "2:0011", "1:11", "1:01", "2:0101"},
	} {
		list := funcsByText(t, texts...)
		for _, f := range list {
			wantAbelian(t, []impl.Func{f}, true, impl.ErrNone)
		}
		wantAbelian(t, list, false, impl.ErrNone)
	}
}

// TestAbelianListsAreInTheirCentralisers goes by what the program's own functions tell.
func TestAbelianListsAreInTheirCentralisers(t *testing.T) {
	for _, list := range listsToCommute(t) {
		if slices.ContainsFunc(list, func(f impl.Func) bool { return f.Arity > 3 }) {
			continue
		}
		want := true
		for _, f := range list {
			centraliser, _ := impl.CentraliserOf(list, f.Arity)
			want = want && slices.Contains(centraliser, f)
		}
		wantAbelian(t, list, want, impl.ErrNone)
	}
}

// wantListError checks all functions that take a list, with good kinds and arities, and with others.
func wantListError(t *testing.T, list []impl.Func, want int64) {
	t.Helper()
	wantAbelian(t, list, false, want)
	for _, n := range append(extremes, 7) {
		wantFound(t, list, n, impl.Func{}, want)
		wantCentraliser(t, list, n, nil, want)
	}
}

func TestListErrorsOfIdentities(t *testing.T) {
	and := impl.Func{Arity: 2, Bits: 8}
	for _, length := range []int{impl.MaxList + 1, impl.MaxList + 2, 16, 64, 1 << 10} {
		wantListError(t, slices.Repeat([]impl.Func{and}, length), impl.ErrRange)
		wantListError(t, make([]impl.Func, length), impl.ErrRange)
	}
	for _, f := range brokenFuncs() {
		for _, length := range []int{1, 2, impl.MaxList, impl.MaxList + 1, 64} {
			for _, place := range []int{0, length / 2, length - 1} {
				list := slices.Repeat([]impl.Func{and}, length)
				list[place] = f
				wantListError(t, list, impl.ErrInvalid)
			}
		}
	}
	// What is no function comes first also where a function has too many arguments.
	wantListError(t, []impl.Func{{Arity: 3, Bits: 232}, {Arity: 2, Bits: 16}}, impl.ErrInvalid)
}

func TestListsOfTheGreatestLength(t *testing.T) {
	list := slices.Repeat(funcsByText(t, "2:0001"), impl.MaxList)
	wantFound(t, list, 3, parsed(t, "3:00000001"), impl.ErrNone)
	wantFound(t, list, 0, impl.Func{}, impl.ErrNotFound)
	wantCentraliser(t, list, 1, funcsByText(t, "1:00", "1:01", "1:11"), impl.ErrNone)
	wantAbelian(t, list, true, impl.ErrNone)
}

func TestFindOfKindErrors(t *testing.T) {
	for _, kind := range append(extremes, -2, 6) {
		for _, list := range every(shortLists(), 5) {
			if kind < 0 || kind > 3 {
				wantFound(t, list, kind, impl.Func{}, impl.ErrRange)
			}
		}
		// A list with more than two arguments is refused also if others of its functions are enough.
		for _, text := range []string{"3:00010111", "3:01101001", "3:00000000", "4:0001011101111111", "4:1111111111111111"} {
			for _, list := range [][]impl.Func{funcsByText(t, text), funcsByText(t, text, "2:1110"), funcsByText(t, "2:1110", "0:0", text)} {
				wantFound(t, list, kind, impl.Func{}, impl.ErrRange)
			}
		}
	}
}

func TestCentraliserOfErrors(t *testing.T) {
	for _, n := range append(extremes, -2, 6) {
		for _, list := range every(listsToCommute(t), 9) {
			if n < 0 || n > 3 {
				wantCentraliser(t, list, n, nil, impl.ErrRange)
			}
		}
	}
}

func TestIsOfKindErrors(t *testing.T) {
	for _, kind := range append(extremes, -2, 6) {
		for _, f := range every(smallAndSomeLarge(), 3) {
			if kind < 0 || kind > 3 {
				wantAnswer(t, fmt.Sprint("IsOfKind ", kind), f, false, impl.ErrRange)(impl.IsOfKind(f, kind))
			}
		}
		for _, f := range brokenFuncs() {
			wantAnswer(t, fmt.Sprint("IsOfKind ", kind), f, false, impl.ErrInvalid)(impl.IsOfKind(f, kind))
		}
	}
}

// TestInvalidComesFirstOfIdentities has what is not a function; some of these would be idempotent, or commute with
// all, by their Bits.
func TestInvalidComesFirstOfIdentities(t *testing.T) {
	broken := append(brokenFuncs(), impl.Func{Arity: 2, Bits: 8 + 16}, impl.Func{Arity: 3, Bits: 232 + 256}, impl.Func{Arity: 1, Bits: 2 - 4})
	for _, f := range broken {
		wantAnswer(t, "IsIdempotent", f, false, impl.ErrInvalid)(impl.IsIdempotent(f))
		wantAnswer(t, "IsSymmetric", f, false, impl.ErrInvalid)(impl.IsSymmetric(f))
		wantAnswer(t, "IsSemilattice", f, false, impl.ErrInvalid)(impl.IsSemilattice(f))
		wantAnswer(t, "HasNearUnanimity", f, false, impl.ErrInvalid)(impl.HasNearUnanimity(f))
		for _, g := range slices.Concat(upToArity(2), someOfFour(t), broken) {
			wantAnswer(t, fmt.Sprint("AreCommuting with ", g), f, false, impl.ErrInvalid)(impl.AreCommuting(f, g))
			wantAnswer(t, fmt.Sprint("AreCommuting with ", f), g, false, impl.ErrInvalid)(impl.AreCommuting(g, f))
		}
	}
}

// tellIdentities has the results of all functions of the chapter for one list.
func tellIdentities(list []impl.Func, f impl.Func, number int64) string {
	idempotent, a := impl.IsIdempotent(f)
	symmetric, b := impl.IsSymmetric(f)
	ofKind, c := impl.IsOfKind(f, number)
	semilattice, d := impl.IsSemilattice(f)
	near, e := impl.HasNearUnanimity(f)
	found, g := impl.FindOfKind(list, number)
	commuting, h := impl.AreCommuting(f, found)
	centraliser, i := impl.CentraliserOf(list, number)
	abelian, j := impl.IsAbelian(list)
	counts, k := impl.KindCounts(number)
	return fmt.Sprint(idempotent, a, symmetric, b, ofKind, c, semilattice, d, near, e, found, g, commuting, h, centraliser, i, abelian, j, counts, k)
}

func TestCommutingListsStayAsTheyAre(t *testing.T) {
	for _, texts := range [][]string{
		{"2:1011", "0:1", "2:0001", "1:10", "2:0110", "2:0001", "0:0", "2:0110", "1:10"},
		{"4:0000000000000001", "0:1", "3:00000001", "2:0001", "1:11", "2:0001", "0:0", "4:0101010101010101", "1:10"},
	} {
		whole := funcsByText(t, texts...)
		kept := slices.Clone(whole)
		for length := range len(whole) + 1 {
			for number := range int64(4) {
				impl.FindOfKind(whole[:length], number)
				impl.CentraliserOf(whole[:length], number)
			}
			impl.IsAbelian(whole[:length])
			if !slices.Equal(whole, kept) {
				t.Fatalf("the list became %v", whole)
			}
		}
	}
}

// TestIdentitiesAtOnce has calls that go on at the same time, and each of them more than once.
func TestIdentitiesAtOnce(t *testing.T) {
	var calls sync.WaitGroup
	for i, list := range slices.Concat(wideLists(t, 2), wideLists(t, 4)) {
		f, number := impl.Func{Arity: 3, Bits: int64(37 * i % 256)}, int64(i%5)
		want := tellIdentities(list, f, number)
		for range 4 {
			calls.Go(func() {
				if got := tellIdentities(list, f, number); got != want {
					t.Errorf("of %v, %v and %d: %s, and at another time %s", list, f, number, got, want)
				}
			})
		}
	}
	calls.Wait()
}

func TestResultsOfIdentitiesAreNewMemory(t *testing.T) {
	for _, list := range every(listsToCommute(t), 23) {
		kept := slices.Clone(list)
		for n := range int64(4) {
			want := tellIdentities(list, impl.Func{}, n)
			for range 2 {
				centraliser, _ := impl.CentraliserOf(list, n)
				clear(centraliser[:cap(centraliser)])
				counts, _ := impl.KindCounts(n)
				spoil(counts)
			}
			if got := tellIdentities(list, impl.Func{}, n); got != want || !slices.Equal(list, kept) {
				t.Errorf("of %v and %d after a change of the last results: %s, want %s", list, n, got, want)
			}
		}
	}
}
