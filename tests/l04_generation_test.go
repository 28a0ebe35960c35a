package tests

import (
	"fmt"
	"slices"
	"sync"
	"testing"

	"loop.example/g01323/impl"
)

// generationModel has what a list generates of the arity n: by Bits, the depth or -1, and the last
// step, whose number is -1 if there is none.
type generationModel struct {
	n       int64
	columns [][]int64
	depths  []int64
	numbers []int64
	lists   [][]int64
}

// modelGeneration lowers depths until nothing arises any more, and looks at last steps after that. It
// goes in no rounds, so that the order in which functions arise does not matter.
func modelGeneration(list []impl.Func, n int64) generationModel {
	m := generationModel{n: n}
	for _, f := range funcsOf(n, 1) {
		m.columns = append(m.columns, modelValues(f))
		m.depths = append(m.depths, -1)
		m.numbers = append(m.numbers, -1)
		m.lists = append(m.lists, nil)
	}
	for i := range n {
		m.depths[modelFunc(n, func(arguments []int64) int64 { return arguments[i] }).Bits] = 0
	}
	for lowered := true; lowered; {
		lowered = false
		for _, f := range list {
			m.eachPut(f, func(_ []int64, greatest int64, made int64) {
				if m.depths[made] == -1 || m.depths[made] > greatest+1 {
					m.depths[made] = greatest + 1
					lowered = true
				}
			})
		}
	}
	for k, f := range list {
		m.eachPut(f, func(put []int64, greatest int64, made int64) {
			if greatest < m.depths[made] && m.isBetter(made, int64(k), put) {
				m.numbers[made], m.lists[made] = int64(k), slices.Clone(put)
			}
		})
	}
	return m
}

// eachPut looks at all lists of functions found so far that can be put into f, those that differ in
// the first function next to each other. The greatest depth of none is 0.
func (m generationModel) eachPut(f impl.Func, look func(put []int64, greatest int64, made int64)) {
	generated := m.generated()
	values := modelValues(f)
	choice := make([]int, f.Arity)
	put := make([]int64, f.Arity)
	for more := true; more; more = advance(choice, len(generated)) {
		greatest := int64(0)
		for i, c := range choice {
			put[i] = generated[c]
			greatest = max(greatest, m.depths[put[i]])
		}
		look(put, greatest, m.made(values, put))
	}
}

// advance counts one up, the first place being the lowest, and reports false after the last number.
func advance(places []int, base int) bool {
	for i := range places {
		places[i]++
		if places[i] < base {
			return true
		}
		places[i] = 0
	}
	return false
}

func (m generationModel) made(values []int64, put []int64) int64 {
	made, power := int64(0), int64(1)
	for row := range m.columns[0] {
		at, place := int64(0), int64(1)
		for _, g := range put {
			at += m.columns[g][row] * place
			place *= 2
		}
		made += values[at] * power
		power *= 2
	}
	return made
}

func (m generationModel) isBetter(made int64, k int64, put []int64) bool {
	number := m.numbers[made]
	return number == -1 || number == k && slices.Compare(put, m.lists[made]) < 0
}

func (m generationModel) generated() []int64 {
	var generated []int64
	for bits, depth := range m.depths {
		if depth >= 0 {
			generated = append(generated, int64(bits))
		}
	}
	return generated
}

func (m generationModel) funcs(list []int64) []impl.Func {
	var funcs []impl.Func
	for _, bits := range list {
		funcs = append(funcs, impl.Func{Arity: m.n, Bits: bits})
	}
	return funcs
}

func (m generationModel) depthNumbers() []int64 {
	numbers := make([]int64, slices.Max(m.depths)+1)
	for _, depth := range m.depths {
		if depth >= 0 {
			numbers[depth]++
		}
	}
	return numbers
}

// check holds a list against the model, with every function whose Bits are first, first + step, ..
func (m generationModel) check(t *testing.T, list []impl.Func, first int64, step int64) {
	t.Helper()
	generated := m.generated()
	if got, code := impl.GeneratedBy(list, m.n); !slices.Equal(got, m.funcs(generated)) || code != impl.ErrNone {
		t.Errorf("GeneratedBy(%v, %d) = %v, %d, want %v", list, m.n, got, code, generated)
	}
	if got, code := impl.CountGenerated(list, m.n); got != int64(len(generated)) || code != impl.ErrNone {
		t.Errorf("CountGenerated(%v, %d) = %d, %d, want %d", list, m.n, got, code, len(generated))
	}
	if got, code := impl.DepthNumbers(list, m.n); !slices.Equal(got, m.depthNumbers()) || code != impl.ErrNone {
		t.Errorf("DepthNumbers(%v, %d) = %v, %d, want %v", list, m.n, got, code, m.depthNumbers())
	}
	for bits := first; bits < int64(len(m.depths)); bits += step {
		m.checkFunc(t, list, impl.Func{Arity: m.n, Bits: bits})
	}
}

func (m generationModel) checkFunc(t *testing.T, list []impl.Func, g impl.Func) {
	t.Helper()
	depth, number, put := m.depths[g.Bits], m.numbers[g.Bits], m.funcs(m.lists[g.Bits])
	depthCode, stepCode := int64(impl.ErrNone), int64(impl.ErrNone)
	switch depth {
	case -1:
		depthCode, stepCode, depth, number, put = impl.ErrNotFound, impl.ErrNotFound, 0, 0, nil
	case 0:
		stepCode, number, put = impl.ErrState, 0, nil
	}
	if got, code := impl.IsGenerated(list, g); got != (depthCode == impl.ErrNone) || code != impl.ErrNone {
		t.Errorf("IsGenerated(%v, %v) = %v, %d", list, g, got, code)
	}
	if got, code := impl.DepthOf(list, g); got != depth || code != depthCode {
		t.Errorf("DepthOf(%v, %v) = %d, %d, want %d, %d", list, g, got, code, depth, depthCode)
	}
	if k, got, code := impl.LastStep(list, g); k != number || !slices.Equal(got, put) || code != stepCode {
		t.Errorf("LastStep(%v, %v) = %d, %v, %d, want %d, %v, %d", list, g, k, got, code, number, put, stepCode)
	}
}

// shortLists has the lists of up to two functions of at most two arguments.
func shortLists() [][]impl.Func {
	pool := slices.Concat(funcsOf(0, 1), funcsOf(1, 1), funcsOf(2, 1))
	lists := [][]impl.Func{nil, {}}
	for _, f := range pool {
		lists = append(lists, []impl.Func{f})
		for _, g := range pool {
			lists = append(lists, []impl.Func{f, g})
		}
	}
	return lists
}

func every[T any](list []T, step int) []T {
	var some []T
	for i := 0; i < len(list); i += step {
		some = append(some, list[i])
	}
	return some
}

// wideLists has lists of up to MaxList functions, of which none has more than greatest arguments.
func wideLists(t *testing.T, greatest int64) [][]impl.Func {
	pool := funcsByText(t, "2:0001", "1:10", "2:0111", "0:1", "2:0110", "0:0", "2:1011", "2:0001", "2:0010", "1:01", "2:1001", "1:11")
	if greatest > 2 {
		pool = append(pool, funcsByText(t, "3:00010111", "3:01101001", "3:00011011", "3:10000001", "3:01111110", "3:00000001")...)
	}
	if greatest > 3 {
		pool = append(pool, funcsByText(t, "4:0110100110010110", "4:0000000100010111", "4:0001000100011110", "4:1111111111111110", "4:0101001100110101")...)
	}
	var lists [][]impl.Func
	for step := range 6 {
		for length := 2; length <= impl.MaxList; length++ {
			var list []impl.Func
			for i := range length {
				list = append(list, pool[(5*step+i*(2+step)+length*length)%len(pool)])
			}
			lists = append(lists, list)
		}
	}
	return lists
}

// listsFor has lists that generate functions of the arity n.
func listsFor(t *testing.T, n int64) [][]impl.Func {
	if n == 2 {
		return slices.Concat(shortLists(), wideLists(t, 2), wideLists(t, 3), wideLists(t, 4))
	}
	return slices.Concat(every(shortLists(), 8), wideLists(t, 2))
}

func TestGenerationAgainstTheDefinition(t *testing.T) {
	for _, list := range listsFor(t, 2) {
		modelGeneration(list, 2).check(t, list, 0, 1)
	}
	for i, list := range listsFor(t, 3) {
		modelGeneration(list, 3).check(t, list, int64(i%17), 17)
	}
}

// TestAllFunctionsOfThreeArguments has lists with long depths, and one that generates few functions.
func TestAllFunctionsOfThreeArguments(t *testing.T) {
	for _, texts := range [][]string{{"2:1100", "2:0001"}, {"2:1110"}, {"0:1", "2:0110"}} {
		list := funcsByText(t, texts...)
		modelGeneration(list, 3).check(t, list, 0, 1)
	}
}

func TestDepthNumbers(t *testing.T) {
	cases := []struct {
		texts []string
		n     int64
		want  []int64
	}{
		{nil, 2, []int64{2}},
		{nil, 3, []int64{3}},
		{[]string{"1:01"}, 2, []int64{2}},
		{[]string{"2:0101", "2:0011"}, 3, []int64{3}},
		{[]string{"0:0"}, 2, []int64{2, 1}},
		{[]string{"0:1"}, 3, []int64{3, 1}},
		{[]string{"0:0", "0:1", "0:0"}, 3, []int64{3, 2}},
		{[]string{"1:00", "0:1"}, 2, []int64{2, 2}},
		{[]string{"1:10"}, 3, []int64{3, 3}},
		{[]string{"1:10", "0:0"}, 2, []int64{2, 3, 1}},
		{[]string{"2:0001"}, 2, []int64{2, 1}},
		{[]string{"2:0001"}, 3, []int64{3, 3, 1}},
		{[]string{"2:0001", "2:0001"}, 3, []int64{3, 3, 1}},
		{[]string{"2:0110"}, 2, []int64{2, 2}},
		{[]string{"2:0110"}, 3, []int64{3, 4, 1}},
		{[]string{"2:1110"}, 2, []int64{2, 3, 5, 6}},
		{[]string{"3:00010111"}, 2, []int64{2}},
		{[]string{"3:01101001"}, 2, []int64{2}},
		{[]string{"3:00011011"}, 2, []int64{2, 2}},
		{[]string{"4:0110100110010110"}, 2, []int64{2, 2}},
		{[]string{"4:0000000000000001"}, 2, []int64{2, 1}},
	}
	for _, c := range cases {
		list := funcsByText(t, c.texts...)
		got, code := impl.DepthNumbers(list, c.n)
		if !slices.Equal(got, c.want) || code != impl.ErrNone {
			t.Errorf("DepthNumbers(%v, %d) = %v, %d, want %v", c.texts, c.n, got, code, c.want)
		}
		if count, code := impl.CountGenerated(list, c.n); count != sumOf(c.want) || code != impl.ErrNone {
			t.Errorf("CountGenerated(%v, %d) = %d, %d, want the sum of %v", c.texts, c.n, count, code, c.want)
		}
	}
}

func TestGeneratedBy(t *testing.T) {
	cases := []struct {
		texts []string
		n     int64
		want  []string
	}{
		{nil, 2, []string{"2:0101", "2:0011"}},
		{nil, 3, []string{"3:01010101", "3:00110011", "3:00001111"}},
		{[]string{"0:1"}, 2, []string{"2:0101", "2:0011", "2:1111"}},
		{[]string{"1:10"}, 2, []string{"2:1100", "2:1010", "2:0101", "2:0011"}},
		{[]string{"2:0111"}, 3, []string{"3:01010101", "3:00110011", "3:01110111", "3:00001111", "3:01011111", "3:00111111", "3:01111111"}},
		{[]string{"3:00011011"}, 2, []string{"2:0001", "2:0101", "2:0011", "2:0111"}},
	}
	for _, c := range cases {
		got, code := impl.GeneratedBy(funcsByText(t, c.texts...), c.n)
		if !slices.Equal(got, funcsByText(t, c.want...)) || code != impl.ErrNone {
			t.Errorf("GeneratedBy(%v, %d) = %v, %d, want %v", c.texts, c.n, got, code, c.want)
		}
	}
}

func TestLastStep(t *testing.T) {
	cases := []struct {
		texts  []string
		g      string
		number int64
		put    []string
		code   int64
	}{
		{[]string{"2:0001", "1:10"}, "2:1110", 1, []string{"2:0001"}, impl.ErrNone},
		{[]string{"2:0001", "2:0001"}, "2:0001", 0, []string{"2:0101", "2:0011"}, impl.ErrNone},
		{[]string{"2:0111", "2:0001"}, "2:0001", 1, []string{"2:0101", "2:0011"}, impl.ErrNone},
		{[]string{"2:0110"}, "2:0000", 0, []string{"2:0101", "2:0101"}, impl.ErrNone},
		{[]string{"2:0110", "0:0"}, "2:0000", 0, []string{"2:0101", "2:0101"}, impl.ErrNone},
		{[]string{"0:0", "2:0110"}, "2:0000", 0, nil, impl.ErrNone},
		{[]string{"0:0", "0:1", "0:1"}, "3:11111111", 1, nil, impl.ErrNone},
		{[]string{"2:1110"}, "2:1111", 0, []string{"2:1100", "2:0011"}, impl.ErrNone},
		{[]string{"2:1011", "2:1110", "1:10"}, "2:1111", 0, []string{"2:0101", "2:0101"}, impl.ErrNone},
		{[]string{"3:00011011"}, "2:0001", 0, []string{"2:0101", "2:0011", "2:0101"}, impl.ErrNone},
		{[]string{"3:00011011"}, "2:0111", 0, []string{"2:0101", "2:0101", "2:0011"}, impl.ErrNone},
		{[]string{"2:0001"}, "3:00000001", 0, []string{"3:00010001", "3:00000101"}, impl.ErrNone},
		{[]string{"4:0110100110010110"}, "2:0110", 0, []string{"2:0101", "2:0101", "2:0101", "2:0011"}, impl.ErrNone},
		{nil, "2:0101", 0, nil, impl.ErrState},
		{[]string{"2:0101", "1:01"}, "2:0011", 0, nil, impl.ErrState},
		{[]string{"2:1110"}, "3:00001111", 0, nil, impl.ErrState},
		{nil, "2:0001", 0, nil, impl.ErrNotFound},
		{[]string{"2:0001"}, "3:01111111", 0, nil, impl.ErrNotFound},
		{[]string{"3:00010111"}, "2:0111", 0, nil, impl.ErrNotFound},
	}
	for _, c := range cases {
		k, put, code := impl.LastStep(funcsByText(t, c.texts...), parsed(t, c.g))
		if k != c.number || !slices.Equal(put, funcsByText(t, c.put...)) || code != c.code {
			t.Errorf("LastStep(%v, %s) = %d, %v, %d, want %d, %v, %d", c.texts, c.g, k, put, code, c.number, c.put, c.code)
		}
	}
}

// TestDepthsAreThoseOfLastSteps has no model: it goes by what the program's own functions tell.
func TestDepthsAreThoseOfLastSteps(t *testing.T) {
	for n, step := range map[int64]int{2: 1, 3: 9} {
		for i, list := range every(listsFor(t, n), step) {
			generated, _ := impl.GeneratedBy(list, n)
			for j, g := range generated {
				if n == 2 || j%16 == i%16 {
					checkLastStep(t, list, g)
				}
			}
		}
	}
}

func checkLastStep(t *testing.T, list []impl.Func, g impl.Func) {
	t.Helper()
	depth, code := impl.DepthOf(list, g)
	k, put, stepCode := impl.LastStep(list, g)
	if code != impl.ErrNone || depth == 0 && stepCode != impl.ErrState || depth > 0 && stepCode != impl.ErrNone {
		t.Fatalf("DepthOf(%v, %v) = %d, %d, but LastStep = %d", list, g, depth, code, stepCode)
	}
	if depth == 0 {
		return
	}
	greatest := int64(0)
	for _, h := range put {
		below, code := impl.DepthOf(list, h)
		greatest = max(greatest, below)
		if code != impl.ErrNone {
			t.Errorf("LastStep(%v, %v) puts in %v, which is not generated", list, g, h)
		}
	}
	made, putCode := impl.PutFuncs(list[k], put)
	if list[k].Arity == 0 {
		made, putCode = impl.ConstantOf(g.Arity, list[k].Bits)
	}
	if made != g || putCode != impl.ErrNone || depth != greatest+1 {
		t.Errorf("LastStep(%v, %v) = %d, %v of the depths up to %d; it makes %v, and the depth is %d", list, g, k, put, greatest, made, depth)
	}
}

func TestFunctionsOfAListAreGenerated(t *testing.T) {
	for _, n := range []int64{2, 3} {
		for _, list := range every(listsFor(t, n), int(3*n-5)) {
			for _, f := range list {
				checkMember(t, list, f, n)
			}
		}
	}
}

// checkMember looks at f itself if it has the arity n, and at f with projections put in.
func checkMember(t *testing.T, list []impl.Func, f impl.Func, n int64) {
	t.Helper()
	if is, code := impl.IsGenerated(list, f); f.Arity == n && (!is || code != impl.ErrNone) {
		t.Errorf("IsGenerated(%v, %v) = %v, %d", list, f, is, code)
	}
	g, _ := impl.ConstantOf(n, f.Bits)
	if f.Arity > 0 {
		var put []impl.Func
		for i := range f.Arity {
			projection, _ := impl.ProjectionOf(n, (i+f.Bits)%n)
			put = append(put, projection)
		}
		g, _ = impl.PutFuncs(f, put)
	}
	if depth, code := impl.DepthOf(list, g); depth > 1 || code != impl.ErrNone {
		t.Errorf("DepthOf(%v, %v) = %d, %d", list, g, depth, code)
	}
}

func TestGeneratedFunctionsGenerateNothingNew(t *testing.T) {
	for _, list := range every(listsFor(t, 2), 2) {
		generated, _ := impl.GeneratedBy(list, 2)
		checkNothingNew(t, list, generated, 2)
	}
	for _, list := range every(listsFor(t, 3), 2) {
		two, _ := impl.GeneratedBy(list, 2)
		checkNothingNew(t, list, two, 3)
		three, _ := impl.GeneratedBy(list, 3)
		checkNothingNew(t, list, three, 2)
	}
}

// checkNothingNew puts parts of what a list generates in its place, and behind it.
func checkNothingNew(t *testing.T, list []impl.Func, generated []impl.Func, n int64) {
	t.Helper()
	want, _ := impl.GeneratedBy(list, n)
	for part := range slices.Chunk(generated, impl.MaxList) {
		got, code := impl.GeneratedBy(part, n)
		for _, g := range got {
			if !slices.Contains(want, g) {
				t.Errorf("%v, all generated by %v, generate %v", part, list, g)
			}
		}
		if code != impl.ErrNone {
			t.Errorf("GeneratedBy(%v, %d): code %d", part, n, code)
		}
	}
	for part := range slices.Chunk(generated, max(1, impl.MaxList-len(list))) {
		longer := slices.Concat(list, part)
		if len(longer) > impl.MaxList {
			return
		}
		if equal, code := impl.AreEqualLists(list, longer, n); !equal || code != impl.ErrNone {
			t.Errorf("AreEqualLists(%v, %v, %d) = %v, %d", list, longer, n, equal, code)
		}
	}
}

func TestCompleteListsGenerateAllFunctions(t *testing.T) {
	var lists [][]impl.Func
	for n := range int64(4) {
		sheffer, _ := impl.ShefferFunctions(n)
		for _, f := range sheffer {
			lists = append(lists, []impl.Func{f})
		}
	}
	lists = slices.Concat(lists, [][]impl.Func{baseOfFour(t), {parsed(t, "4:1000000000000000")}}, someLists(t), listsFor(t, 2))
	for _, list := range lists {
		complete, _ := impl.IsComplete(list)
		if count, code := impl.CountGenerated(list, 2); (count == 16) != complete || code != impl.ErrNone {
			t.Errorf("CountGenerated(%v, 2) = %d, %d, IsComplete = %v", list, count, code, complete)
		}
	}
	for _, list := range slices.Concat(every(shortLists(), 3), wideLists(t, 2)) {
		complete, _ := impl.IsComplete(list)
		if count, code := impl.CountGenerated(list, 3); (count == 256) != complete || code != impl.ErrNone {
			t.Errorf("CountGenerated(%v, 3) = %d, %d, IsComplete = %v", list, count, code, complete)
		}
	}
}

func TestAreEqualLists(t *testing.T) {
	for n, lists := range map[int64][][]impl.Func{
		2: slices.Concat(every(listsFor(t, 2), 13), [][]impl.Func{funcsByText(t, "3:00010111"), funcsByText(t, "3:00011011"), funcsByText(t, "2:0001", "2:0111")}),
		3: every(listsFor(t, 3), 5),
	} {
		var models [][]int64
		for _, list := range lists {
			models = append(models, modelGeneration(list, n).generated())
		}
		for i, a := range lists {
			for j, b := range lists {
				want := slices.Equal(models[i], models[j])
				if got, code := impl.AreEqualLists(a, b, n); got != want || code != impl.ErrNone {
					t.Errorf("AreEqualLists(%v, %v, %d) = %v, %d, want %v", a, b, n, got, code, want)
				}
			}
		}
	}
}

func TestNeededOfAgainstTheDefinition(t *testing.T) {
	for n, lists := range map[int64][][]impl.Func{2: every(listsFor(t, 2), 5), 3: every(listsFor(t, 3), 7)} {
		for _, list := range lists {
			count := len(modelGeneration(list, n).generated())
			var want []int64
			for k := range list {
				without := slices.Delete(slices.Clone(list), k, k+1)
				if len(modelGeneration(without, n).generated()) < count {
					want = append(want, int64(k))
				}
			}
			if got, code := impl.NeededOf(list, n); !slices.Equal(got, want) || code != impl.ErrNone {
				t.Errorf("NeededOf(%v, %d) = %v, %d, want %v", list, n, got, code, want)
			}
		}
	}
}

func TestNeededOf(t *testing.T) {
	cases := []struct {
		texts []string
		n     int64
		want  []int64
	}{
		{nil, 2, nil},
		{[]string{"2:0001", "1:10", "2:0001"}, 2, []int64{1}},
		{[]string{"2:1110"}, 3, []int64{0}},
		{[]string{"2:1110", "2:1110"}, 3, nil},
		{[]string{"1:01", "2:0011"}, 2, nil},
		{[]string{"0:0", "1:00"}, 2, nil},
		{[]string{"0:0", "0:1"}, 3, []int64{0, 1}},
		{[]string{"2:0001", "2:0111"}, 3, []int64{0, 1}},
		{[]string{"2:0001", "2:0111", "1:10"}, 3, []int64{2}},
		{[]string{"0:0", "0:1", "3:01101001", "2:0001"}, 2, []int64{0, 1, 2, 3}},
		{[]string{"3:00010111"}, 2, nil},
		{[]string{"3:00010111", "3:00011011"}, 2, []int64{1}},
		{[]string{"3:00010111", "4:0110100110010110"}, 2, []int64{0, 1}},
	}
	for _, c := range cases {
		if got, code := impl.NeededOf(funcsByText(t, c.texts...), c.n); !slices.Equal(got, c.want) || code != impl.ErrNone {
			t.Errorf("NeededOf(%v, %d) = %v, %d, want %v", c.texts, c.n, got, code, c.want)
		}
	}
}

// wantGenerationCode checks the functions with an arity for a code, and zero values beside an error.
func wantGenerationCode(t *testing.T, list []impl.Func, n int64, want int64) {
	t.Helper()
	funcs, a := impl.GeneratedBy(list, n)
	count, b := impl.CountGenerated(list, n)
	numbers, c := impl.DepthNumbers(list, n)
	needed, d := impl.NeededOf(list, n)
	if a != want || b != want || c != want || d != want {
		t.Errorf("%v, %d: codes %d, %d, %d, %d, want %d", list, n, a, b, c, d, want)
	}
	if want != impl.ErrNone && (len(funcs) != 0 || count != 0 || len(numbers) != 0 || len(needed) != 0) {
		t.Errorf("%v, %d: %v, %d, %v, %v beside the code %d", list, n, funcs, count, numbers, needed, want)
	}
	wantEqualCode(t, list, list, n, want)
	wantEqualCode(t, list, nil, n, want)
	wantEqualCode(t, nil, list, n, want)
}

func wantEqualCode(t *testing.T, a, b []impl.Func, n int64, want int64) {
	t.Helper()
	if equal, code := impl.AreEqualLists(a, b, n); code != want || code != impl.ErrNone && equal {
		t.Errorf("AreEqualLists(%v, %v, %d) = %v, %d, want the code %d", a, b, n, equal, code, want)
	}
}

// wantSearchError checks the functions that ask for a function for an error.
func wantSearchError(t *testing.T, list []impl.Func, g impl.Func, want int64) {
	t.Helper()
	is, a := impl.IsGenerated(list, g)
	depth, b := impl.DepthOf(list, g)
	k, put, c := impl.LastStep(list, g)
	if a != want || b != want || c != want || is || depth != 0 || k != 0 || len(put) != 0 {
		t.Errorf("%v, %v: %v, %d; %d, %d; %d, %v, %d, want the code %d", list, g, is, a, depth, b, k, put, c, want)
	}
}

func TestGenerationWithFunctionsThatAreNone(t *testing.T) {
	and := impl.Func{Arity: 2, Bits: 8}
	for _, broken := range brokenFuncs() {
		for _, length := range []int{1, impl.MaxList, impl.MaxList + 1, 100} {
			list := slices.Repeat([]impl.Func{and, {Arity: 4}}, length)[:length]
			long := slices.Clone(list)
			list[length-1] = broken
			for _, n := range []int64{2, 3, -1, 4} {
				wantGenerationCode(t, list, n, impl.ErrInvalid)
				wantEqualCode(t, long, list, n, impl.ErrInvalid)
				wantEqualCode(t, list, long, n, impl.ErrInvalid)
				wantSearchError(t, list, impl.Func{Arity: max(n, 0)}, impl.ErrInvalid)
			}
			wantSearchError(t, list, broken, impl.ErrInvalid)
			wantSearchError(t, long, broken, impl.ErrInvalid)
		}
		wantSearchError(t, nil, broken, impl.ErrInvalid)
	}
}

func TestGenerationOutOfRange(t *testing.T) {
	and := impl.Func{Arity: 2, Bits: 8}
	for _, n := range extremes {
		for _, length := range []int{0, 1, impl.MaxList, impl.MaxList + 1, 1000} {
			want := int64(impl.ErrRange)
			if (n == 2 || n == 3) && length <= impl.MaxList {
				want = impl.ErrNone
			}
			wantGenerationCode(t, slices.Repeat([]impl.Func{and}, length), n, want)
			wantGenerationCode(t, make([]impl.Func, length), n, want)
		}
	}
	for _, n := range []int64{0, 1, 4} {
		for _, list := range [][]impl.Func{nil, {and}, {{Arity: n}}, slices.Repeat([]impl.Func{and}, impl.MaxList+1)} {
			wantSearchError(t, list, impl.Func{Arity: n}, impl.ErrRange)
		}
	}
	for _, text := range []string{"2:0101", "2:0111", "3:00001111", "3:01111111"} {
		wantSearchError(t, slices.Repeat([]impl.Func{and}, impl.MaxList+1), parsed(t, text), impl.ErrRange)
	}
}

func TestGenerationWithGreatArities(t *testing.T) {
	and := impl.Func{Arity: 2, Bits: 8}
	for _, text := range []string{"3:00010111", "3:00001111", "4:0000000000000000", "4:0110100110010110"} {
		for _, place := range []int{0, 3, impl.MaxList - 1} {
			list := slices.Repeat([]impl.Func{and}, impl.MaxList)
			list[place] = parsed(t, text)
			wantGenerationCode(t, list, 2, impl.ErrNone)
			wantGenerationCode(t, list, 3, impl.ErrRange)
			wantEqualCode(t, []impl.Func{and}, list, 3, impl.ErrRange)
			wantSearchError(t, list, parsed(t, "3:00001111"), impl.ErrRange)
			wantSearchError(t, list, parsed(t, "3:01111111"), impl.ErrRange)
			if is, code := impl.IsGenerated(list, and); !is || code != impl.ErrNone {
				t.Errorf("IsGenerated(%v, %v) = %v, %d", list, and, is, code)
			}
		}
	}
	four := slices.Repeat(funcsByText(t, "4:1000000000000000"), impl.MaxList)
	if count, code := impl.CountGenerated(four, 2); count != 16 || code != impl.ErrNone {
		t.Errorf("CountGenerated of MaxList functions of four arguments = %d, %d", count, code)
	}
}

// tellAll returns all that the functions of the chapter tell of a list.
func tellAll(list []impl.Func, g impl.Func) string {
	funcs, a := impl.GeneratedBy(list, g.Arity)
	count, b := impl.CountGenerated(list, g.Arity)
	numbers, c := impl.DepthNumbers(list, g.Arity)
	is, d := impl.IsGenerated(list, g)
	depth, e := impl.DepthOf(list, g)
	k, put, f := impl.LastStep(list, g)
	equal, h := impl.AreEqualLists(list, list, g.Arity)
	needed, i := impl.NeededOf(list, g.Arity)
	return fmt.Sprint(funcs, a, count, b, numbers, c, is, d, depth, e, k, put, f, equal, h, needed, i)
}

func TestGeneratingListsStayAsTheyAre(t *testing.T) {
	whole := funcsByText(t, "2:1011", "0:0", "2:0001", "1:10", "2:0110", "2:0001", "0:1", "2:0111")
	kept := slices.Clone(whole)
	for length := range len(whole) + 1 {
		tellAll(whole[:length], parsed(t, "2:1001"))
		tellAll(whole[:length], parsed(t, "3:00010111"))
		impl.AreEqualLists(whole[:length], whole[length:], 2)
		if !slices.Equal(whole, kept) {
			t.Fatalf("the list became %v", whole)
		}
	}
}

// TestGenerationAtOnce has calls that go on at the same time, and each of them more than once.
func TestGenerationAtOnce(t *testing.T) {
	var calls sync.WaitGroup
	for i, list := range wideLists(t, 2) {
		g := impl.Func{Arity: int64(2 + i%2), Bits: int64(i % 16)}
		want := tellAll(list, g)
		for range 4 {
			calls.Go(func() {
				if got := tellAll(list, g); got != want {
					t.Errorf("of %v and %v: %s, and at another time %s", list, g, got, want)
				}
			})
		}
	}
	calls.Wait()
}

func TestGenerationResultsAreNewMemory(t *testing.T) {
	list := funcsByText(t, "2:0001", "1:10")
	g := parsed(t, "3:11111110")
	want := tellAll(list, g)
	for range 2 {
		funcs, _ := impl.GeneratedBy(list, 3)
		clear(funcs[:cap(funcs)])
		numbers, _ := impl.DepthNumbers(list, 3)
		spoil(numbers)
		_, put, _ := impl.LastStep(list, g)
		clear(put[:cap(put)])
		needed, _ := impl.NeededOf(list, 3)
		spoil(needed)
	}
	if got := tellAll(list, g); got != want {
		t.Errorf("after a change of the last results: %s, want %s", got, want)
	}
}
