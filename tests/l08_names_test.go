package tests

import (
	"fmt"
	"slices"
	"strings"
	"sync"
	"testing"

	"loop.example/g01323/impl"
)

// nameModel is a line for each name. The functions in the named clone are those with all of the marks: U, V
// and E for unary ones, disjunctions and conjunctions, 0, 1, D, M and L for the classes, and z or o with
// the least degree for 0 or for 1. The names above are the next greater ones in the lattice of Post; a
// degree of 3 stands there for all that are greater, but AllDegrees.
type nameModel struct {
	name       string
	dual       string
	marks      string
	above      string
	generators string
}

// nameModels has all names in bytewise order.
var nameModels = []nameModel{
	{"BF", "BF", "", "", "2:0001 1:10"},
	{"D", "D", "D", "BF", "3:11010100"},
	{"D1", "D1", "D 0", "D R2", "3:01110001"},
	{"D2", "D2", "D M", "D1 S00^2 S10^2", "3:00010111"},
	{"E", "V", "E", "M", "2:0001 0:0 0:1"},
	{"E0", "V1", "E 0", "E S11", "2:0001 0:0"},
	{"E1", "V0", "E 1", "E M1", "2:0001 0:1"},
	{"E2", "V2", "E 0 1", "E0 E1 S10", "2:0001"},
	{"I", "I", "U M", "E N V", "1:01 0:0 0:1"},
	{"I0", "I1", "U M 0", "E0 I L0 V0", "1:01 0:0"},
	{"I1", "I0", "U M 1", "E1 I L1 V1", "1:01 0:1"},
	{"I2", "I2", "U M 0 1", "D2 E2 I0 I1 L2 N2 V2", "1:01"},
	{"L", "L", "L", "BF", "2:0110 0:1"},
	{"L0", "L1", "L 0", "L R0", "2:0110"},
	{"L1", "L0", "L 1", "L R1", "2:1001"},
	{"L2", "L2", "L 0 1", "D1 L0 L1 L3", "3:01101001"},
	{"L3", "L3", "L D", "D L", "3:10010110"},
	{"M", "M", "M", "BF", "2:0111 2:0001 0:0 0:1"},
	{"M0", "M1", "M 0", "M R0", "2:0111 2:0001 0:0"},
	{"M1", "M0", "M 1", "M R1", "2:0111 2:0001 0:1"},
	{"M2", "M2", "M 0 1", "M0 M1 R2", "2:0111 2:0001"},
	{"N", "N", "U", "L", "1:10 0:1"},
	{"N2", "N2", "U D", "L3 N", "1:10"},
	{"R0", "R1", "0", "BF", "2:0001 2:0110"},
	{"R1", "R0", "1", "BF", "2:0111 2:1001"},
	{"R2", "R2", "0 1", "R0 R1", "2:0111 3:01000001"},
	{"S0", "S1", "z9", "S0^3", "2:1011"},
	{"S00", "S10", "z9 M 0", "S00^3 S01 S02", "3:01010111"},
	{"S00^2", "S10^2", "z2 M 0", "M2 S01^2 S02^2", "3:01010111 3:00010111"},
	{"S00^3", "S10^3", "z3 M 0", "S00^2 S01^3 S02^3", "3:01010111 4:0001011101111111"},
	{"S01", "S11", "z9 M", "S0 S01^3", "3:01010111 0:1"},
	{"S01^2", "S11^2", "z2 M", "M1 S0^2", "3:01010111 0:1 3:00010111"},
	{"S01^3", "S11^3", "z3 M", "S01^2 S0^3", "3:01010111 0:1 4:0001011101111111"},
	{"S02", "S12", "z9 0", "S0 S02^3", "3:01110101"},
	{"S02^2", "S12^2", "z2 0", "R2 S0^2", "3:01110101 3:00010111"},
	{"S02^3", "S12^3", "z3 0", "S02^2 S0^3", "3:01110101 4:0001011101111111"},
	{"S0^2", "S1^2", "z2", "R1", "2:1011 3:00010111"},
	{"S0^3", "S1^3", "z3", "S0^2", "2:1011 4:0001011101111111"},
	{"S1", "S0", "o9", "S1^3", "2:0100"},
	{"S10", "S00", "o9 M 1", "S10^3 S11 S12", "3:00010101"},
	{"S10^2", "S00^2", "o2 M 1", "M2 S11^2 S12^2", "3:00010101 3:00010111"},
	{"S10^3", "S00^3", "o3 M 1", "S10^2 S11^3 S12^3", "3:00010101 4:0000000100010111"},
	{"S11", "S01", "o9 M", "S1 S11^3", "3:00010101 0:0"},
	{"S11^2", "S01^2", "o2 M", "M0 S1^2", "3:00010101 0:0 3:00010111"},
	{"S11^3", "S01^3", "o3 M", "S11^2 S1^3", "3:00010101 0:0 4:0000000100010111"},
	{"S12", "S02", "o9 1", "S1 S12^3", "3:01010001"},
	{"S12^2", "S02^2", "o2 1", "R2 S1^2", "3:01010001 3:00010111"},
	{"S12^3", "S02^3", "o3 1", "S12^2 S1^3", "3:01010001 4:0000000100010111"},
	{"S1^2", "S0^2", "o2", "R0", "2:0100 3:00010111"},
	{"S1^3", "S0^3", "o3", "S1^2", "2:0100 4:0000000100010111"},
	{"V", "E", "V", "M", "2:0111 0:0 0:1"},
	{"V0", "E1", "V 0", "M0 V", "2:0111 0:0"},
	{"V1", "E0", "V 1", "S01 V", "2:0111 0:1"},
	{"V2", "E2", "V 0 1", "S00 V0 V1", "2:0111"},
}

func namesOfModels() []string {
	var names []string
	for _, m := range nameModels {
		names = append(names, m.name)
	}
	return names
}

// leastApart has for each set of rows, by the sum of the powers of two at them, the size of the least set
// of at least one of these rows that is not separated for c, or 0 if there is none.
func leastApart(n, c int64) []int64 {
	rows := allArguments(n)
	least := make([]int64, 1<<len(rows))
	for set := range least {
		var members [][]int64
		for i, row := range rows {
			if set>>i%2 == 1 {
				members = append(members, row)
			}
		}
		if len(members) > 0 && !areSeparated(n, members, c) {
			least[set] = int64(len(members))
		}
		for i := range rows {
			if set>>i%2 == 1 {
				least[set] = lesserSize(least[set], least[set-1<<i])
			}
		}
	}
	return least
}

func areSeparated(n int64, rows [][]int64, c int64) bool {
	for i := range n {
		if !slices.ContainsFunc(rows, func(row []int64) bool { return row[i] != c }) {
			return true
		}
	}
	return false
}

func lesserSize(a, b int64) int64 {
	if a == 0 || b == 0 {
		return a + b
	}
	return min(a, b)
}

// traitModel has what the name of a list goes by, for one function.
type traitModel struct {
	classes     []int64
	essential   int
	disjunction bool
	conjunction bool
	degrees     [2]int64
}

// modelTraits has the traits of all functions, found by the definitions; the tests share them.
var modelTraits = sync.OnceValue(func() map[impl.Func]traitModel {
	all := map[impl.Func]traitModel{}
	classes := modelRows()
	for n := range int64(5) {
		least := [2][]int64{leastApart(n, 0), leastApart(n, 1)}
		for _, f := range funcsOf(n, 1) {
			essential := modelEssential(f)
			all[f] = traitModel{
				classes:     classes[f],
				essential:   len(essential),
				disjunction: len(essential) == 0 || isOneWhere(f, func(arguments []int64) bool { return hasOneOf(arguments, essential, 1) }),
				conjunction: len(essential) == 0 || isOneWhere(f, func(arguments []int64) bool { return !hasOneOf(arguments, essential, 0) }),
				degrees:     [2]int64{modelSeparating(f, 0, least[0]), modelSeparating(f, 1, least[1])},
			}
		}
	}
	return all
})

func isOneWhere(f impl.Func, holds func(arguments []int64) bool) bool {
	for row, value := range modelValues(f) {
		if holds(argumentLists[f.Arity][row]) != (value == 1) {
			return false
		}
	}
	return true
}

func hasOneOf(arguments []int64, variables []int64, v int64) bool {
	return slices.ContainsFunc(variables, func(i int64) bool { return arguments[i] == v })
}

func modelSeparating(f impl.Func, c int64, least []int64) int64 {
	set, power := int64(0), int64(1)
	for _, value := range modelValues(f) {
		if value == c {
			set += power
		}
		power *= 2
	}
	if least[set] == 0 {
		return 9
	}
	return least[set] - 1
}

// has looks for one mark of nameModel.
func (m traitModel) has(mark string) bool {
	switch mark {
	case "U":
		return m.essential <= 1
	case "V":
		return m.disjunction
	case "E":
		return m.conjunction
	case "z2", "z3", "z9":
		return m.degrees[0] >= int64(mark[1]-'0')
	case "o2", "o3", "o9":
		return m.degrees[1] >= int64(mark[1]-'0')
	}
	return m.classes[strings.Index("01DML", mark)] == 1
}

func haveMarks(list []impl.Func, marks string) bool {
	traits := modelTraits()
	for _, f := range list {
		for _, mark := range strings.Fields(marks) {
			if !traits[f].has(mark) {
				return false
			}
		}
	}
	return true
}

// modelName reads the eight lines of the document, each one by itself.
func modelName(list []impl.Func) string {
	have := func(marks string) bool { return haveMarks(list, marks) }
	switch {
	case have("U") && have("M"):
		return keptName(list, "I", "I")
	case have("U"):
		return firstName(list, "D", "N2", "", "N")
	case have("V"):
		return keptName(list, "V", "V")
	case have("E"):
		return keptName(list, "E", "E")
	case have("L"):
		return firstName(list, "0 1", "L2", "D", "L3", "0", "L0", "1", "L1", "", "L")
	case have("D"):
		return firstName(list, "M", "D2", "0", "D1", "", "D")
	case have("z2"):
		return firstName(list, "M 0", "S00", "M", "S01", "0", "S02", "", "S0") + firstName(list, "z9", "", "z3", "^3", "", "^2")
	case have("o2"):
		return firstName(list, "M 1", "S10", "M", "S11", "1", "S12", "", "S1") + firstName(list, "o9", "", "o3", "^3", "", "^2")
	case have("M"):
		return keptName(list, "M", "M")
	}
	return keptName(list, "R", "BF")
}

func keptName(list []impl.Func, letter string, otherwise string) string {
	return firstName(list, "0 1", letter+"2", "0", letter+"0", "1", letter+"1", "", otherwise)
}

// firstName takes marks and names in turn, and returns the name behind the first marks that a list has.
func firstName(list []impl.Func, marksAndNames ...string) string {
	for pair := range slices.Chunk(marksAndNames, 2) {
		if haveMarks(list, pair[0]) {
			return pair[1]
		}
	}
	return "none"
}

func wantName(t *testing.T, list []impl.Func, want string) {
	t.Helper()
	if got, code := impl.CloneName(list); got != want || code != impl.ErrNone {
		t.Errorf("CloneName(%v) = %q, %d, want %q", list, got, code, want)
	}
}

// wantIn checks IsInNamed for a good function and a name.
func wantIn(t *testing.T, f impl.Func, name string, want bool) {
	t.Helper()
	if got, code := impl.IsInNamed(f, name); got != want || code != impl.ErrNone {
		t.Errorf("IsInNamed(%v, %q) = %v, %d, want %v", f, name, got, code, want)
	}
}

// someMembers has all functions of up to three arguments, and of four: some, all that are monotone or
// self-dual, and of those with a degree of 2 or more every 23rd and all with the degree 3.
func someMembers() []impl.Func {
	traits := modelTraits()
	list := smallAndSomeLarge()
	great := 0
	for _, f := range funcsOf(4, 1) {
		m := traits[f]
		if m.has("z2") || m.has("o2") {
			great++
		}
		isThree := m.degrees[0] == 3 || m.degrees[1] == 3
		if m.has("M") || m.has("D") || isThree || (m.has("z2") || m.has("o2")) && great%23 == 0 {
			list = append(list, f)
		}
	}
	return list
}

// listsToName has lists of all lengths, for each name some that have it: its generators with functions of the
// clone behind them. The steps with which the functions are taken are primes.
func listsToName(t *testing.T) [][]impl.Func {
	lists := slices.Concat(shortLists(), someLists(t), wideLists(t, 2), wideLists(t, 3), wideLists(t, 4))
	pool := upToArity(3)
	for i := range pool {
		for j := i % 7; j < len(pool); j += 7 {
			lists = append(lists, []impl.Func{pool[i], pool[j]})
		}
	}
	members := someMembers()
	for i, f := range members {
		lists = append(lists, []impl.Func{f}, []impl.Func{f, members[(i*31+7)%len(members)], members[(i*113+1)%len(members)]})
	}
	for _, m := range nameModels {
		generators := funcsByText(t, strings.Fields(m.generators)...)
		var inside []impl.Func
		for _, f := range members {
			if haveMarks([]impl.Func{f}, m.marks) {
				inside = append(inside, f)
			}
		}
		for i := range 25 {
			list := append(slices.Clone(generators), inside[i*31%len(inside)], inside[(i*53+1)%len(inside)])
			lists = append(lists, list, append(slices.Clone(list), members[i*997%len(members)]))
		}
	}
	return lists
}

func TestAllDegrees(t *testing.T) {
	if impl.AllDegrees != 9 {
		t.Errorf("AllDegrees is %d", impl.AllDegrees)
	}
}

// TestSeparatingDegreeAgainstTheDefinition also counts the functions of each arity by the degrees 0 to 3,
// and AllDegrees; there are as many for 0 as for 1, as the degree for 0 is that of the dual for 1.
func TestSeparatingDegreeAgainstTheDefinition(t *testing.T) {
	traits := modelTraits()
	var counts [2][5][10]int64
	eachFunc(t, func(f impl.Func, rows rowModel) {
		for c := range int64(2) {
			want := traits[f].degrees[c]
			counts[c][f.Arity][want]++
			wantAnswer(t, fmt.Sprint("SeparatingDegree for ", c), f, want, impl.ErrNone)(impl.SeparatingDegree(f, c))
		}
		dual, _ := impl.DualOf(f)
		wantAnswer(t, "SeparatingDegree for 1 of the dual", f, traits[f].degrees[0], impl.ErrNone)(impl.SeparatingDegree(dual, 1))
	})
	want := [5][10]int64{{0: 1, 9: 1}, {0: 2, 9: 2}, {0: 8, 1: 2, 9: 6}, {0: 128, 1: 88, 2: 2, 9: 38}, {0: 32768, 1: 31392, 2: 432, 3: 2, 9: 942}}
	if counts != [2][5][10]int64{want, want} {
		t.Errorf("numbers of functions by degrees: %v", counts)
	}
}

func TestSeparatingDegree(t *testing.T) {
	cases := map[string][2]int64{
		"0:0": {0, 9}, "0:1": {9, 0}, "1:00": {0, 9}, "1:11": {9, 0}, "1:01": {9, 9}, "1:10": {0, 0},
		"2:0000": {0, 9}, "2:1111": {9, 0}, "2:0001": {1, 9}, "2:0111": {9, 1}, "2:0110": {0, 1}, "2:1001": {1, 0}, "2:1000": {0, 0}, "2:0100": {0, 9}, "2:0010": {0, 9}, "2:1011": {9, 0}, "2:1101": {9, 0}, "2:1110": {0, 0}, "2:0101": {9, 9}, "2:0011": {9, 9},
		"3:00000000": {0, 9}, "3:11111111": {9, 0}, "3:00010111": {2, 2}, "3:01101001": {1, 1}, "3:10010110": {0, 0}, "3:00011011": {1, 1}, "3:01010111": {9, 1}, "3:00010101": {1, 9}, "3:01110101": {9, 1}, "3:01010001": {1, 9}, "3:00000001": {1, 9}, "3:01111111": {9, 1}, "3:00010000": {0, 9}, "3:11110111": {9, 0},
		"4:0000000000000000": {0, 9}, "4:1111111111111111": {9, 0}, "4:0000000000000001": {1, 9}, "4:0111111111111111": {9, 1}, "4:1000000000000000": {0, 0}, "4:1111111111111110": {0, 0}, "4:0001011101111111": {3, 1}, "4:0000000100010111": {1, 3}, "4:0001000100010111": {1, 2}, "4:0001011101110111": {2, 1},
		"4:0000000100010110": {0, 3}, "4:1001011101111111": {3, 0}, "4:0101010101010111": {9, 1}, "4:0001010101010101": {1, 9}, "4:0001010101010111": {2, 2}, "4:0000000010000000": {0, 9}, "4:1111111011111111": {9, 0}, "4:0110100110010110": {0, 1}, "4:0000000011111111": {9, 9},
	}
	for text, want := range cases {
		f := parsed(t, text)
		for c, degree := range want {
			wantAnswer(t, fmt.Sprint("SeparatingDegree for ", c), f, degree, impl.ErrNone)(impl.SeparatingDegree(f, int64(c)))
		}
	}
}

// TestDegreesOfFewRows has functions whose value is c nowhere, or in one row alone: this is the set without
// an argument c if the arguments are all the other one.
func TestDegreesOfFewRows(t *testing.T) {
	for n := range int64(5) {
		zero, one := constantsOf(n)
		for c, constant := range []impl.Func{one, zero} {
			wantAnswer(t, fmt.Sprint("SeparatingDegree for ", c), constant, int64(impl.AllDegrees), impl.ErrNone)(impl.SeparatingDegree(constant, int64(c)))
			wantAnswer(t, fmt.Sprint("SeparatingDegree for ", 1-c), constant, int64(0), impl.ErrNone)(impl.SeparatingDegree(constant, int64(1-c)))
			for _, row := range allArguments(n) {
				f := modelFunc(n, func(arguments []int64) int64 {
					if slices.Equal(arguments, row) {
						return int64(c)
					}
					return int64(1 - c)
				})
				want := int64(0)
				if slices.Contains(row, int64(c)) {
					want = impl.AllDegrees
				}
				wantAnswer(t, fmt.Sprint("SeparatingDegree for ", c), f, want, impl.ErrNone)(impl.SeparatingDegree(f, int64(c)))
			}
		}
	}
}

func TestSeparatingDegreeErrors(t *testing.T) {
	for _, c := range append(extremes, -2, 9, 10) {
		for _, f := range every(smallAndSomeLarge(), 19) {
			if c != 0 && c != 1 {
				wantAnswer(t, fmt.Sprint("SeparatingDegree for ", c), f, int64(0), impl.ErrRange)(impl.SeparatingDegree(f, c))
			}
		}
		for _, f := range brokenFuncs() {
			wantAnswer(t, fmt.Sprint("SeparatingDegree for ", c), f, int64(0), impl.ErrInvalid)(impl.SeparatingDegree(f, c))
		}
	}
}

// TestDisjunctionsAgainstTheDefinition has conjunctions and unary functions, too. Each choice of variables
// makes one disjunction, and there are two constants.
func TestDisjunctionsAgainstTheDefinition(t *testing.T) {
	traits := modelTraits()
	var disjunctions, conjunctions, unary [5]int64
	count := func(counts *[5]int64, f impl.Func, holds bool) {
		if holds {
			counts[f.Arity]++
		}
	}
	eachFunc(t, func(f impl.Func, rows rowModel) {
		m := traits[f]
		count(&disjunctions, f, m.disjunction)
		count(&conjunctions, f, m.conjunction)
		count(&unary, f, m.essential <= 1)
		wantAnswer(t, "IsDisjunction", f, m.disjunction, impl.ErrNone)(impl.IsDisjunction(f))
		wantAnswer(t, "IsConjunction", f, m.conjunction, impl.ErrNone)(impl.IsConjunction(f))
		wantAnswer(t, "IsUnary", f, m.essential <= 1, impl.ErrNone)(impl.IsUnary(f))
	})
	if want := [5]int64{2, 3, 5, 9, 17}; disjunctions != want || conjunctions != want {
		t.Errorf("numbers of disjunctions and conjunctions: %v, %v", disjunctions, conjunctions)
	}
	if unary != [5]int64{2, 4, 6, 8, 10} {
		t.Errorf("numbers of unary functions: %v", unary)
	}
}

func TestIsDisjunctionIsConjunctionAndIsUnary(t *testing.T) {
	cases := map[string][3]bool{
		"0:0": {true, true, true}, "0:1": {true, true, true}, "1:00": {true, true, true}, "1:11": {true, true, true}, "1:01": {true, true, true}, "1:10": {false, false, true},
		"2:0000": {true, true, true}, "2:1111": {true, true, true}, "2:0111": {true, false, false}, "2:0001": {false, true, false}, "2:0101": {true, true, true}, "2:0011": {true, true, true}, "2:1100": {false, false, true}, "2:1010": {false, false, true}, "2:0110": {false, false, false}, "2:1011": {false, false, false}, "2:1000": {false, false, false}, "2:1110": {false, false, false},
		"3:00000000": {true, true, true}, "3:11111111": {true, true, true}, "3:01111111": {true, false, false}, "3:00000001": {false, true, false}, "3:00010111": {false, false, false}, "3:01011111": {true, false, false}, "3:00000101": {false, true, false}, "3:00110011": {true, true, true}, "3:11110000": {false, false, true}, "3:01010111": {false, false, false},
		"4:0000000000000000": {true, true, true}, "4:1111111111111111": {true, true, true}, "4:0111111111111111": {true, false, false}, "4:0000000000000001": {false, true, false}, "4:0101010111111111": {true, false, false}, "4:0000000001010101": {false, true, false}, "4:0000000011111111": {true, true, true}, "4:1111111100000000": {false, false, true}, "4:0111111111111110": {false, false, false}, "4:1000000000000001": {false, false, false},
	}
	for text, want := range cases {
		f := parsed(t, text)
		wantAnswer(t, "IsDisjunction", f, want[0], impl.ErrNone)(impl.IsDisjunction(f))
		wantAnswer(t, "IsConjunction", f, want[1], impl.ErrNone)(impl.IsConjunction(f))
		wantAnswer(t, "IsUnary", f, want[2], impl.ErrNone)(impl.IsUnary(f))
	}
}

func TestInvalidComesFirstOfNames(t *testing.T) {
	for _, f := range brokenFuncs() {
		wantAnswer(t, "IsDisjunction", f, false, impl.ErrInvalid)(impl.IsDisjunction(f))
		wantAnswer(t, "IsConjunction", f, false, impl.ErrInvalid)(impl.IsConjunction(f))
		wantAnswer(t, "IsUnary", f, false, impl.ErrInvalid)(impl.IsUnary(f))
		for _, name := range append(nearNames(), "BF", "R0", "S0^2", "I2") {
			wantAnswer(t, fmt.Sprintf("IsInNamed of %.70q", name), f, false, impl.ErrInvalid)(impl.IsInNamed(f, name))
		}
	}
}

func TestCloneNames(t *testing.T) {
	want := strings.Fields("BF D D1 D2 E E0 E1 E2 I I0 I1 I2 L L0 L1 L2 L3 M M0 M1 M2 N N2 R0 R1 R2" +
		" S0 S00 S00^2 S00^3 S01 S01^2 S01^3 S02 S02^2 S02^3 S0^2 S0^3" +
		" S1 S10 S10^2 S10^3 S11 S11^2 S11^3 S12 S12^2 S12^3 S1^2 S1^3 V V0 V1 V2")
	got := impl.CloneNames()
	if !slices.Equal(got, want) || !slices.Equal(got, namesOfModels()) {
		t.Errorf("CloneNames() = %q", got)
	}
	for i := 1; i < len(got); i++ {
		if got[i-1] >= got[i] {
			t.Errorf("CloneNames() has %q ahead of %q", got[i-1], got[i])
		}
	}
}

// TestNamesOfEachLine has lists for each name, in the order of the lines.
func TestNamesOfEachLine(t *testing.T) {
	cases := map[string][]string{
		"I2": {"", "1:01", "2:0011", "4:0101010101010101 1:01"}, "I0": {"0:0", "1:00", "4:0000000000000000", "0:0 1:01 2:0101"}, "I1": {"0:1", "2:1111", "3:11111111 3:00001111"}, "I": {"0:0 0:1", "1:00 2:1111 1:01", "4:0000000000000000 4:1111111111111111"},
		"N2": {"1:10", "3:11110000", "1:10 1:01", "2:1100 2:1010"}, "N": {"1:10 0:1", "1:10 0:0", "0:0 0:1 4:1111111100000000", "2:1010 2:0000"},
		"V2": {"2:0111", "4:0111111111111111", "3:01011111 1:01"}, "V0": {"2:0111 0:0", "1:00 3:00111111"}, "V1": {"2:0111 0:1", "4:0101010111111111 2:1111"}, "V": {"2:0111 0:0 0:1", "1:00 1:11 3:01111111"},
		"E2": {"2:0001", "4:0000000000000001", "3:00000101 1:01"}, "E0": {"2:0001 0:0", "1:00 3:00000011"}, "E1": {"2:0001 0:1", "4:0000000001010101 2:1111"}, "E": {"2:0001 0:0 0:1", "1:00 1:11 3:00000001"},
		"L2": {"3:01101001", "4:0110011010011001"}, "L3": {"3:10010110", "3:01101001 1:10", "1:10 4:0110011010011001"}, "L0": {"2:0110", "4:0110100110010110", "2:0110 0:0"}, "L1": {"2:1001", "2:1001 0:1", "3:01101001 0:1", "4:1001011001101001"}, "L": {"2:0110 0:1", "2:0110 1:10", "2:0110 2:1001", "3:01101001 0:0 0:1", "3:10010110 0:0"},
		"D2": {"3:00010111", "4:0001010101010111", "3:00010111 1:01"}, "D1": {"3:01110001", "3:00010111 3:01101001"}, "D": {"3:11010100", "3:00010111 1:10", "3:11101000"},
		"S00": {"3:01010111", "4:0101010101010111", "2:0111 3:01010111"}, "S01": {"3:01010111 0:1", "3:01010111 2:1111"}, "S02": {"3:01110101", "4:0111010111110101"}, "S0": {"2:1011", "2:1101", "2:1011 0:1", "3:01110101 0:1"},
		"S00^2": {"3:01010111 3:00010111", "2:0111 3:00010111", "2:0111 4:0001010101010111"}, "S01^2": {"3:00010111 0:1", "2:0111 3:00010111 1:11"}, "S02^2": {"3:01110101 3:00010111", "3:01110101 4:0001010101010111"}, "S0^2": {"2:1011 3:00010111", "3:01110101 3:00010111 0:1"},
		"S00^3": {"4:0001011101111111", "3:01010111 4:0001011101111111"}, "S01^3": {"4:0001011101111111 0:1", "3:01010111 4:0001011101111111 3:11111111"}, "S02^3": {"3:01110101 4:0001011101111111", "4:0111011101110101 4:0001011101111111"}, "S0^3": {"2:1011 4:0001011101111111", "4:1001011101111111", "3:01110101 4:0001011101111111 0:1"},
		"S10": {"3:00010101", "4:0001010101010101", "2:0001 3:00010101"}, "S11": {"3:00010101 0:0", "3:00010101 2:0000"}, "S12": {"3:01010001", "4:0101000001010001"}, "S1": {"2:0100", "2:0010", "2:0100 0:0", "3:01010001 0:0"},
		"S10^2": {"3:00010101 3:00010111", "2:0001 3:00010111"}, "S11^2": {"3:00010111 0:0", "2:0001 3:00010111 1:00"}, "S12^2": {"3:01010001 3:00010111", "3:01010001 4:0001010101010111"}, "S1^2": {"2:0100 3:00010111", "3:01010001 3:00010111 0:0"},
		"S10^3": {"4:0000000100010111", "3:00010101 4:0000000100010111"}, "S11^3": {"4:0000000100010111 0:0", "3:00010101 4:0000000100010111 3:00000000"}, "S12^3": {"3:01010001 4:0000000100010111"}, "S1^3": {"2:0100 4:0000000100010111", "4:0000000100010110", "3:01010001 4:0000000100010111 0:0"},
		"M2": {"2:0111 2:0001", "4:0001000100011111"}, "M0": {"2:0111 2:0001 0:0", "3:01010111 0:0"}, "M1": {"2:0111 2:0001 0:1", "3:00010101 0:1"}, "M": {"2:0111 2:0001 0:0 0:1", "3:00010111 0:0 0:1"},
		"R2": {"2:0111 3:01000001", "3:00011011", "2:0001 3:01110001", "2:0111 3:01110001"}, "R0": {"2:0001 2:0110", "3:01110001 0:0", "2:0111 2:0110", "2:0100 2:0111"}, "R1": {"2:0111 2:1001", "3:01110001 0:1", "2:1011 2:0001"}, "BF": {"2:0001 1:10", "2:1110", "2:1000", "2:0001 2:0110 0:1", "4:1000000000000000", "3:11010100 0:0", "2:1011 2:0100"},
	}
	if len(cases) != len(nameModels) {
		t.Errorf("there are lists for %d names", len(cases))
	}
	for want, lists := range cases {
		for _, texts := range lists {
			list := funcsByText(t, strings.Fields(texts)...)
			wantName(t, list, want)
			slices.Reverse(list)
			wantName(t, list, want)
		}
	}
}

// TestCloneNameAgainstTheDefinition also counts how often each name is met.
func TestCloneNameAgainstTheDefinition(t *testing.T) {
	counts := map[string]int{}
	for _, list := range listsToName(t) {
		want := modelName(list)
		counts[want]++
		wantName(t, list, want)
		if t.Failed() {
			t.FailNow()
		}
	}
	for _, name := range namesOfModels() {
		if counts[name] < 25 {
			t.Errorf("the name %s is met %d times", name, counts[name])
		}
	}
}

func TestNamesOfOneFunction(t *testing.T) {
	eachFunc(t, func(f impl.Func, rows rowModel) {
		wantName(t, []impl.Func{f}, modelName([]impl.Func{f}))
	})
}

func TestNamesOfNoFunctions(t *testing.T) {
	wantName(t, nil, "I2")
	wantName(t, []impl.Func{}, "I2")
}

// TestNamesGoBySetsOfFunctions changes what makes no difference to a clone: the order of a list, functions
// that stand in it twice, and variables that are not essential.
func TestNamesGoBySetsOfFunctions(t *testing.T) {
	for _, list := range every(listsToName(t), 3) {
		want, _ := impl.CloneName(list)
		reversed := slices.Clone(list)
		slices.Reverse(reversed)
		wantName(t, reversed, want)
		if 2*len(list) <= impl.MaxList {
			wantName(t, slices.Concat(list, list), want)
		}
		var cores, wide []impl.Func
		for _, f := range list {
			core, _ := impl.CoreOf(f)
			cores = append(cores, core)
			if f.Arity < 4 {
				f, _ = impl.WidenFunc(f)
			}
			wide = append(wide, f)
		}
		wantName(t, wide, want)
		wantName(t, cores, want)
	}
}

// TestNamesAreEqualWhereListsGenerateTheSame goes by chapter 4: lists of functions of up to two arguments are
// told apart by the functions of three arguments that they generate.
func TestNamesAreEqualWhereListsGenerateTheSame(t *testing.T) {
	named := map[string]string{}
	generated := map[string]string{}
	lists := slices.Concat(shortLists(), wideLists(t, 2))
	for _, m := range nameModels {
		if !strings.ContainsAny(m.generators, "34") {
			lists = append(lists, funcsByText(t, strings.Fields(m.generators)...))
		}
	}
	for _, list := range lists {
		name, _ := impl.CloneName(list)
		funcs, _ := impl.GeneratedBy(list, 3)
		text := fmt.Sprint(funcs)
		if known, found := named[name]; found && known != text {
			t.Errorf("two lists with the name %s generate other functions; one is %v", name, list)
		}
		if known, found := generated[text]; found && known != name {
			t.Errorf("lists that generate the same are named %s and %s; one is %v", known, name, list)
		}
		named[name], generated[text] = text, name
	}
	if len(named) != 26 {
		t.Errorf("%d names are met", len(named))
	}
}

// TestListsOfOneNameGenerateTheSameOfTwoArguments has functions of up to four arguments; of two arguments they
// can generate the same with other names, too.
func TestListsOfOneNameGenerateTheSameOfTwoArguments(t *testing.T) {
	named := map[string][]impl.Func{}
	for _, m := range nameModels {
		named[m.name] = funcsByText(t, strings.Fields(m.generators)...)
	}
	for _, list := range every(listsToName(t), 17) {
		name, _ := impl.CloneName(list)
		if equal, code := impl.AreEqualLists(list, named[name], 2); !equal || code != impl.ErrNone {
			t.Errorf("%v has the name %s, but AreEqualLists with its generators = %v, %d", list, name, equal, code)
		}
	}
}

func wantNoCloneName(t *testing.T, what string, list []impl.Func, want int64) {
	t.Helper()
	if name, code := impl.CloneName(list); name != "" || code != want {
		t.Errorf("CloneName of %s = %q, %d, want the code %d", what, name, code, want)
	}
}

func TestCloneNameErrors(t *testing.T) {
	nand := impl.Func{Arity: 2, Bits: 7}
	wantName(t, slices.Repeat([]impl.Func{nand}, impl.MaxList), "BF")
	wantName(t, make([]impl.Func, impl.MaxList), "I0")
	for _, length := range []int{impl.MaxList + 1, impl.MaxList + 2, 16, 64, 1 << 16} {
		list := slices.Repeat([]impl.Func{nand}, length)
		wantNoCloneName(t, fmt.Sprint(length, " functions"), list, impl.ErrRange)
		wantNoCloneName(t, fmt.Sprint(length, " constants"), make([]impl.Func, length), impl.ErrRange)
	}
	for _, f := range brokenFuncs() {
		for _, length := range []int{1, 2, impl.MaxList, impl.MaxList + 1, 1 << 10} {
			for _, place := range []int{0, length / 2, length - 1} {
				list := slices.Repeat([]impl.Func{nand}, length)
				list[place] = f
				wantNoCloneName(t, fmt.Sprint(f, " at ", place, " of ", length), list, impl.ErrInvalid)
			}
		}
	}
}

func TestGeneratorsOf(t *testing.T) {
	for _, m := range nameModels {
		wantFuncs(t, "GeneratorsOf "+m.name, funcsByText(t, strings.Fields(m.generators)...), impl.ErrNone)(impl.GeneratorsOf(m.name))
	}
}

// TestNamesOfGeneratorsAreTheNames goes by what the program's own functions tell.
func TestNamesOfGeneratorsAreTheNames(t *testing.T) {
	for _, name := range impl.CloneNames() {
		generators, code := impl.GeneratorsOf(name)
		if code != impl.ErrNone {
			t.Errorf("GeneratorsOf(%q): code %d", name, code)
		}
		wantName(t, generators, name)
		for _, f := range generators {
			wantIn(t, f, name, true)
		}
	}
}

func wantDualName(t *testing.T, name string, want string, wantCode int64) {
	t.Helper()
	if got, code := impl.DualName(name); got != want || code != wantCode {
		t.Errorf("DualName(%.70q) = %q, %d, want %q, %d", name, got, code, want, wantCode)
	}
}

func TestDualName(t *testing.T) {
	for _, m := range nameModels {
		wantDualName(t, m.name, m.dual, impl.ErrNone)
	}
}

// TestDualNamesOfDualNamesAreTheNames goes by what the program's own functions tell.
func TestDualNamesOfDualNamesAreTheNames(t *testing.T) {
	for _, name := range impl.CloneNames() {
		dual, code := impl.DualName(name)
		if code != impl.ErrNone {
			t.Errorf("DualName(%q): code %d", name, code)
		}
		wantDualName(t, dual, name, impl.ErrNone)
	}
}

// TestDualListsHaveDualNames has other lists than those of generators.
func TestDualListsHaveDualNames(t *testing.T) {
	for _, list := range every(listsToName(t), 3) {
		name, _ := impl.CloneName(list)
		var duals []impl.Func
		for _, f := range list {
			dual, _ := impl.DualOf(f)
			duals = append(duals, dual)
		}
		dualName, code := impl.CloneName(duals)
		if code != impl.ErrNone {
			t.Errorf("CloneName(%v): code %d", duals, code)
		}
		wantDualName(t, name, dualName, impl.ErrNone)
	}
}

func TestIsInNamedAgainstTheMarks(t *testing.T) {
	counts := map[string]int{}
	members := someMembers()
	for _, m := range nameModels {
		for _, f := range members {
			want := haveMarks([]impl.Func{f}, m.marks)
			if want {
				counts[m.name]++
			}
			wantIn(t, f, m.name, want)
		}
		if counts[m.name] < 10 || counts[m.name] == len(members) && m.name != "BF" {
			t.Errorf("%d functions are in the clone %s", counts[m.name], m.name)
		}
		if t.Failed() {
			t.FailNow()
		}
	}
}

func TestIsInNamed(t *testing.T) {
	cases := []struct {
		f    string
		name string
		want bool
	}{
		{"0:0", "I2", false}, {"0:0", "I0", true}, {"0:0", "I1", false}, {"0:1", "I1", true}, {"0:1", "I", true}, {"1:01", "I2", true}, {"4:0000000011111111", "I2", true}, {"1:10", "I", false}, {"1:10", "N2", true}, {"0:0", "N2", false}, {"0:0", "N", true},
		{"2:0111", "V2", true}, {"2:0111", "E", false}, {"2:0001", "E2", true}, {"2:0001", "V", false}, {"0:1", "V0", false}, {"0:1", "V1", true}, {"1:10", "V", false}, {"2:0110", "L0", true}, {"2:0110", "L1", false}, {"2:0110", "L2", false}, {"1:10", "L3", true}, {"0:0", "L3", false}, {"3:00010111", "L", false},
		{"3:00010111", "D2", true}, {"3:01101001", "D2", false}, {"3:01101001", "D1", true}, {"1:10", "D1", false}, {"1:10", "D", true}, {"0:0", "D", false}, {"2:0001", "D", false},
		{"2:0111", "S0", true}, {"2:0001", "S0", false}, {"2:0001", "S1", true}, {"0:1", "S0", true}, {"0:0", "S0", false}, {"0:1", "S00", false}, {"0:1", "S01", true}, {"0:1", "S02", false}, {"0:0", "S11", true}, {"0:0", "S10", false}, {"0:0", "S12", false}, {"2:1011", "S01", false}, {"2:1011", "S02", false}, {"2:0100", "S1", true}, {"2:0100", "S11", false},
		{"3:00010111", "S0", false}, {"3:00010111", "S0^2", true}, {"3:00010111", "S0^3", false}, {"3:00010111", "S10^2", true}, {"3:00010111", "S10^3", false}, {"4:0001011101111111", "S00^3", true}, {"4:0001011101111111", "S00", false}, {"4:0001011101111111", "S00^2", true}, {"4:0000000100010111", "S10^3", true}, {"4:0000000100010111", "S10", false}, {"4:0001011101111111", "S1^2", false},
		{"2:0110", "M", false}, {"3:00011011", "M2", false}, {"4:0001000100011111", "M2", true}, {"0:0", "M2", false}, {"0:0", "M0", true}, {"0:1", "M0", false}, {"3:00011011", "R2", true}, {"2:0110", "R2", false}, {"2:0110", "R0", true}, {"2:1001", "R0", false}, {"2:1001", "R1", true}, {"2:1000", "R0", false}, {"2:1000", "BF", true}, {"4:1000000000000001", "BF", true},
	}
	for _, c := range cases {
		wantIn(t, parsed(t, c.f), c.name, c.want)
	}
}

// TestMembersAreGenerated goes by chapter 4: for all functions of two arguments, and for those of three where
// no generator has more than two.
func TestMembersAreGenerated(t *testing.T) {
	short := 0
	for _, name := range impl.CloneNames() {
		generators, _ := impl.GeneratorsOf(name)
		for n := int64(2); n <= 3; n++ {
			generated, code := impl.GeneratedBy(generators, n)
			if code != impl.ErrNone {
				continue
			}
			short += int(n - 2)
			for _, f := range funcsOf(n, 1) {
				wantIn(t, f, name, slices.Contains(generated, f))
			}
		}
	}
	if short != 26 {
		t.Errorf("%d names have generators of up to two arguments alone", short)
	}
}

// TestMembersOfListsAreInTheClonesNamedByThem also looks at functions of two arguments that the lists generate.
func TestMembersOfListsAreInTheClonesNamedByThem(t *testing.T) {
	for i, list := range every(listsToName(t), 2) {
		name, code := impl.CloneName(list)
		if code != impl.ErrNone {
			t.Errorf("CloneName(%v): code %d", list, code)
		}
		for _, f := range list {
			wantIn(t, f, name, true)
		}
		if i%29 != 0 {
			continue
		}
		generated, _ := impl.GeneratedBy(list, 2)
		for _, f := range funcsOf(2, 1) {
			wantIn(t, f, name, slices.Contains(generated, f))
		}
	}
}

// aboveModel has for each name all that are above it, and itself, by the lattice of Post.
func aboveModel() map[string]map[string]bool {
	above := map[string]map[string]bool{}
	for _, m := range nameModels {
		above[m.name] = map[string]bool{m.name: true}
	}
	for range nameModels {
		for _, m := range nameModels {
			for _, next := range strings.Fields(m.above) {
				for name := range above[next] {
					above[m.name][name] = true
				}
			}
		}
	}
	return above
}

func wantBelow(t *testing.T, a, b string, want bool, wantCode int64) {
	t.Helper()
	if got, code := impl.IsBelow(a, b); got != want || code != wantCode {
		t.Errorf("IsBelow(%.70q, %.70q) = %v, %d, want %v, %d", a, b, got, code, want, wantCode)
	}
}

func TestIsBelowInTheLatticeOfPost(t *testing.T) {
	above := aboveModel()
	for _, a := range nameModels {
		for _, b := range nameModels {
			want := above[a.name][b.name]
			wantBelow(t, a.name, b.name, want, impl.ErrNone)
			wantBelow(t, a.dual, b.dual, want, impl.ErrNone)
		}
	}
}

// TestInclusionGoesFromNameToName goes by what the program's own functions tell: names are below others if all
// functions of the one clone are in the other one, and names below each other are the same.
func TestInclusionGoesFromNameToName(t *testing.T) {
	names := impl.CloneNames()
	members := slices.Concat(upToArity(2), every(funcsOf(3, 1), 3), funcsByText(t, "3:00010111", "3:01101001", "4:0001011101111111", "4:0000000100010111", "4:1001011101111111", "4:0000000100010110"))
	for _, m := range nameModels {
		members = append(members, funcsByText(t, strings.Fields(m.generators)...)...)
	}
	sets := map[string][]bool{}
	for _, name := range names {
		for _, f := range members {
			in, _ := impl.IsInNamed(f, name)
			sets[name] = append(sets[name], in)
		}
	}
	for _, a := range names {
		for _, b := range names {
			within := true
			for i := range members {
				within = within && (!sets[a][i] || sets[b][i])
			}
			wantBelow(t, a, b, within, impl.ErrNone)
			if within && a != b {
				wantBelow(t, b, a, false, impl.ErrNone)
			}
		}
	}
}

// nearNames has texts that are no names, but come near to one, or are long.
func nearNames() []string {
	texts := []string{"", "^", "^2", "^3", " ", "\n", "\x00", "\xff", "é", "B", "F", "S", "R", "R3", "I3", "V3", "M3", "E3", "L4", "D0", "D3", "N0", "N1", "N3", "S2", "S3", "S03", "S13", "S20", "S000", "S00^", "bf", "Bf", "bF", "0", "1", "2", "I02", "I20", "BF BF", "BFBF", "BF^2", "I2^2", "R2^3", "S0^2^2", "S0^2^3", "S0^22", "S0^02", "S0^+2", "S0^-2", "S0^2.0", "S0^２", "S0 ^2", "S0^ 2", "S^2", "S2^0", "2^S0", "S0^three", "S0^S0", "S0^AllDegrees"}
	for _, m := range nameModels {
		base, _, _ := strings.Cut(m.name, "^")
		texts = append(texts, strings.ToLower(m.name), " "+m.name, m.name+" ", m.name+"\n", "\n"+m.name, m.name+"\x00", "\x00"+m.name, m.name+"\xff", m.name+"\t", m.name+"\r", m.name+m.name, m.name+",", m.name+"^", m.name+strings.Repeat("0", 1<<12))
		for _, degree := range []string{"", "0", "1", "4", "5", "9", "10", "12", "13", "20", "30", "-1", "∞", " "} {
			texts = append(texts, base+"^"+degree)
		}
		if base[0] != 'S' {
			texts = append(texts, base+"^2", base+"^3")
		}
	}
	return append(texts, strings.Repeat("S0", 1<<19), strings.Repeat("^2", 1<<19), "S0^"+strings.Repeat("2", 1<<20), strings.Repeat("\x00", 1<<20), strings.Repeat("\xff", 1<<20))
}

// wantNoName checks the functions with names for ErrSyntax, and zero values beside it.
func wantNoName(t *testing.T, text string) {
	t.Helper()
	wantFuncs(t, fmt.Sprintf("GeneratorsOf %.70q", text), nil, impl.ErrSyntax)(impl.GeneratorsOf(text))
	wantDualName(t, text, "", impl.ErrSyntax)
	wantBelow(t, text, "BF", false, impl.ErrSyntax)
	wantBelow(t, "I2", text, false, impl.ErrSyntax)
	wantBelow(t, text, text, false, impl.ErrSyntax)
	for _, f := range []impl.Func{{}, {Arity: 1, Bits: 2}, {Arity: 4, Bits: 65535}} {
		wantAnswer(t, fmt.Sprintf("IsInNamed of %.70q", text), f, false, impl.ErrSyntax)(impl.IsInNamed(f, text))
	}
}

func TestTextsThatAreNoNames(t *testing.T) {
	for _, text := range nearNames() {
		wantNoName(t, text)
	}
	wantBelow(t, "bf", "S0^4", false, impl.ErrSyntax)
}

// wantNameOrNone checks whether a text is a name, by all functions that take one.
func wantNameOrNone(t *testing.T, names []string, text string) {
	t.Helper()
	if !slices.Contains(names, text) {
		wantNoName(t, text)
		return
	}
	wantName(t, funcsNamed(t, text), text)
	wantBelow(t, text, "BF", true, impl.ErrNone)
	wantBelow(t, "I2", text, true, impl.ErrNone)
	wantIn(t, impl.Func{Arity: 1, Bits: 2}, text, true)
}

func funcsNamed(t *testing.T, name string) []impl.Func {
	t.Helper()
	list, code := impl.GeneratorsOf(name)
	if code != impl.ErrNone {
		t.Errorf("GeneratorsOf(%q): code %d", name, code)
	}
	return list
}

// TestDamagedNames leaves out, puts in and changes bytes; some of these texts are other names.
func TestDamagedNames(t *testing.T) {
	names := namesOfModels()
	for _, name := range names {
		for place := range len(name) + 1 {
			ahead, behind := name[:place], name[place:]
			for _, b := range []byte("012349BDEFILMNRSV^ s\n\x00\x7f\x80\xff") {
				wantNameOrNone(t, names, ahead+string([]byte{b})+behind)
				if behind != "" {
					wantNameOrNone(t, names, ahead+string([]byte{b})+behind[1:])
				}
			}
			if behind != "" {
				wantNameOrNone(t, names, ahead+behind[1:])
			}
		}
	}
}

func TestNamesOfAnyByte(t *testing.T) {
	names := namesOfModels()
	for b := range 256 {
		symbol := string([]byte{byte(b)})
		for _, text := range []string{symbol, "B" + symbol, symbol + "F", "S" + symbol, "S0" + symbol, "S0" + symbol + "2", "S1^" + symbol, "D" + symbol, "N" + symbol} {
			wantNameOrNone(t, names, text)
		}
	}
}

// tellNames returns all that the functions of the chapter tell of a list, a function and a name.
func tellNames(list []impl.Func, f impl.Func, name string) string {
	zero, a := impl.SeparatingDegree(f, 0)
	one, b := impl.SeparatingDegree(f, 1)
	disjunction, c := impl.IsDisjunction(f)
	conjunction, d := impl.IsConjunction(f)
	unary, e := impl.IsUnary(f)
	named, g := impl.CloneName(list)
	generators, h := impl.GeneratorsOf(name)
	in, i := impl.IsInNamed(f, name)
	below, j := impl.IsBelow(named, name)
	above, k := impl.IsBelow(name, named)
	dual, l := impl.DualName(name)
	return fmt.Sprint(zero, a, one, b, disjunction, c, conjunction, d, unary, e, named, g, impl.CloneNames(), generators, h, in, i, below, j, above, k, dual, l)
}

func TestNamedListsStayAsTheyAre(t *testing.T) {
	whole := funcsByText(t, "2:1011", "0:1", "3:01010111", "4:0001011101111111", "2:1011", "3:00010111", "0:0", "2:0110", "1:10")
	kept := slices.Clone(whole)
	for length := range len(whole) + 1 {
		impl.CloneName(whole[:length])
		if !slices.Equal(whole, kept) {
			t.Fatalf("the list became %v", whole)
		}
	}
}

// TestNamesAtOnce has calls that go on at the same time, and each of them more than once.
func TestNamesAtOnce(t *testing.T) {
	var calls sync.WaitGroup
	lists := wideLists(t, 4)
	texts := append(namesOfModels(), "", "S0^4", "bf")
	for i, name := range texts {
		list := lists[i%len(lists)]
		f := impl.Func{Arity: int64(i % 5), Bits: int64(i % 2)}
		want := tellNames(list, f, name)
		for range 4 {
			calls.Go(func() {
				if got := tellNames(list, f, name); got != want {
					t.Errorf("of %v, %v and %q: %s, and at another time %s", list, f, name, got, want)
				}
			})
		}
	}
	calls.Wait()
}

func TestResultsOfNamesAreNewMemory(t *testing.T) {
	for _, m := range nameModels {
		want := tellNames(nil, impl.Func{}, m.name)
		for range 2 {
			names := impl.CloneNames()
			clear(names[:cap(names)])
			generators, _ := impl.GeneratorsOf(m.name)
			clear(generators[:cap(generators)])
		}
		if got := tellNames(nil, impl.Func{}, m.name); got != want {
			t.Errorf("%s after a change of the last results: %s, want %s", m.name, got, want)
		}
	}
}
