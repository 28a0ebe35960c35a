package tests

import (
	"fmt"
	"math"
	"math/bits"
	"slices"
	"sync"
	"testing"

	"loop.example/g01323/impl"
)

// The model works with tuples as lists of numbers, in the order of their numbers.

func modelHas(r impl.Relation, tuple []int64) bool {
	return modelValue(impl.Func{Arity: r.Places, Bits: r.Tuples}, tuple) == 1
}

func modelTuples(r impl.Relation) [][]int64 {
	var tuples [][]int64
	for _, tuple := range allArguments(r.Places) {
		if modelHas(r, tuple) {
			tuples = append(tuples, tuple)
		}
	}
	return tuples
}

// modelRelation looks at all tuples of a number of places.
func modelRelation(places int64, has func(tuple []int64) bool) impl.Relation {
	set := modelFunc(places, func(tuple []int64) int64 {
		if has(tuple) {
			return 1
		}
		return 0
	})
	return impl.Relation{Places: places, Tuples: set.Bits}
}

func hasTuple(tuples [][]int64, tuple []int64) bool {
	return slices.ContainsFunc(tuples, func(other []int64) bool { return slices.Equal(other, tuple) })
}

// keepModel has for each relation that was looked at its tuples, and which lists of numbers are among
// them: models look at the same relations again and again.
type keepModel struct {
	relations map[impl.Relation]relationModel
	values    map[impl.Func][]int64
}

type relationModel struct {
	tuples [][]int64
	has    []bool
}

func newKeepModel() keepModel {
	return keepModel{map[impl.Relation]relationModel{}, map[impl.Func][]int64{}}
}

func (m keepModel) relation(r impl.Relation) relationModel {
	if known, found := m.relations[r]; found {
		return known
	}
	model := relationModel{tuples: modelTuples(r)}
	for _, tuple := range allArguments(r.Places) {
		model.has = append(model.has, modelHas(r, tuple))
	}
	m.relations[r] = model
	return model
}

func (m keepModel) valuesOf(f impl.Func) []int64 {
	if _, found := m.values[f]; !found {
		m.values[f] = modelValues(f)
	}
	return m.values[f]
}

// keeps takes as many tuples as f has arguments, in all ways.
func (m keepModel) keeps(f impl.Func, r impl.Relation) bool {
	model, values := m.relation(r), m.valuesOf(f)
	if len(model.tuples) == 0 && f.Arity > 0 {
		return true
	}
	taken := make([]int, f.Arity)
	made := make([]int64, r.Places)
	for more := true; more; more = advance(taken, len(model.tuples)) {
		for place := range made {
			row, power := int64(0), int64(1)
			for _, t := range taken {
				row += model.tuples[t][place] * power
				power *= 2
			}
			made[place] = values[row]
		}
		if !model.has[rowOf(made)] {
			return false
		}
	}
	return true
}

func (m keepModel) allKeep(list []impl.Func, r impl.Relation) bool {
	return !slices.ContainsFunc(list, func(f impl.Func) bool { return !m.keeps(f, r) })
}

func (m keepModel) keepsAll(f impl.Func, list []impl.Relation) bool {
	return !slices.ContainsFunc(list, func(r impl.Relation) bool { return !m.keeps(f, r) })
}

// closureIn has, of relations that are kept and have the tuples of r, those all of whose tuples all of
// them have: there should be just one.
func closureIn(kept []impl.Relation, r impl.Relation) []impl.Relation {
	var above []impl.Relation
	for _, s := range kept {
		if r.Tuples|s.Tuples == s.Tuples {
			above = append(above, s)
		}
	}
	return slices.DeleteFunc(slices.Clone(above), func(s impl.Relation) bool {
		return slices.ContainsFunc(above, func(o impl.Relation) bool { return s.Tuples|o.Tuples != o.Tuples })
	})
}

// closure adds tuples until nothing new is made of those that are there.
func (m keepModel) closure(list []impl.Func, r impl.Relation) impl.Relation {
	for {
		if m.allKeep(list, r) {
			return r
		}
		tuples := m.relation(r).tuples
		for _, f := range list {
			values := m.valuesOf(f)
			taken := make([]int, f.Arity)
			for more := len(tuples) > 0 || f.Arity == 0; more; more = advance(taken, len(tuples)) {
				made := make([]int64, r.Places)
				for place := range made {
					var arguments []int64
					for _, t := range taken {
						arguments = append(arguments, tuples[t][place])
					}
					made[place] = values[rowOf(arguments)]
				}
				if !modelHas(r, made) {
					r.Tuples += 1 << rowOf(made)
				}
			}
		}
	}
}

func relationsOf(places int64, step int64) []impl.Relation {
	var list []impl.Relation
	for _, f := range funcsOf(places, step) {
		if places > 0 {
			list = append(list, impl.Relation{Places: places, Tuples: f.Bits})
		}
	}
	return list
}

// upToPlaces has all relations of up to so many places.
func upToPlaces(places int64) []impl.Relation {
	var list []impl.Relation
	for p := int64(1); p <= places; p++ {
		list = append(list, relationsOf(p, 1)...)
	}
	return list
}

// smallAndSomeWide has all relations of up to three places, and some of four, the last one among them.
func smallAndSomeWide() []impl.Relation {
	return slices.Concat(upToPlaces(3), relationsOf(4, 251), []impl.Relation{{Places: 4, Tuples: 65535}})
}

func upToArity(n int64) []impl.Func {
	var list []impl.Func
	for m := range n + 1 {
		list = append(list, funcsOf(m, 1)...)
	}
	return list
}

func brokenRelations() []impl.Relation {
	list := []impl.Relation{
		{},
		{Places: 0, Tuples: 1},
		{Places: -1, Tuples: 0},
		{Places: -1, Tuples: 1},
		{Places: 5, Tuples: 0},
		{Places: 5, Tuples: 1},
		{Places: 62, Tuples: 1},
		{Places: 63, Tuples: 0},
		{Places: 64, Tuples: 1},
		{Places: 1 << 32, Tuples: 0},
		{Places: math.MaxInt64, Tuples: math.MaxInt64},
		{Places: math.MaxInt64, Tuples: 0},
		{Places: math.MinInt64, Tuples: 0},
	}
	for places := int64(1); places <= 4; places++ {
		for _, tuples := range []int64{-1, greatestTuples(places) + 1, math.MaxInt64, math.MinInt64, 1 << 32} {
			list = append(list, impl.Relation{Places: places, Tuples: tuples})
		}
	}
	return list
}

func greatestTuples(places int64) int64 { return []int64{0, 3, 15, 255, 65535}[places] }

// wantRelation returns a check of a call that returns a relation and a code.
func wantRelation(t *testing.T, call string, want impl.Relation, wantCode int64) func(impl.Relation, int64) {
	t.Helper()
	return func(got impl.Relation, code int64) {
		t.Helper()
		if got != want || code != wantCode {
			t.Errorf("%s = %v, %d, want %v, %d", call, got, code, want, wantCode)
		}
	}
}

// classRelations has for each class of chapter 2 the relation that just its functions keep: the tuple
// 0, the tuple 1, 01 with 10, 00 with 01 and 11, and those of four places with an even sum.
func classRelations() []impl.Relation {
	return []impl.Relation{
		{Places: 1, Tuples: 1},
		{Places: 1, Tuples: 2},
		{Places: 2, Tuples: 6},
		{Places: 2, Tuples: 13},
		modelRelation(4, func(tuple []int64) bool { return sumOf(tuple)%2 == 0 }),
	}
}

func TestRelationLimits(t *testing.T) {
	if impl.MaxPlaces != 4 || impl.MaxRelations != 6 {
		t.Errorf("MaxPlaces is %d, MaxRelations is %d", impl.MaxPlaces, impl.MaxRelations)
	}
}

func TestIsRelation(t *testing.T) {
	for places := int64(1); places <= 4; places++ {
		greatest := greatestTuples(places)
		for _, tuples := range []int64{0, 1, 2, 3, greatest / 2, greatest - 1, greatest} {
			if r := (impl.Relation{Places: places, Tuples: tuples}); !impl.IsRelation(r) {
				t.Errorf("IsRelation(%v) = false", r)
			}
		}
	}
	for _, r := range brokenRelations() {
		if impl.IsRelation(r) {
			t.Errorf("IsRelation(%v) = true", r)
		}
	}
}

func TestIsRelationOfAnyNumbers(t *testing.T) {
	for _, places := range extremes {
		for _, tuples := range append(extremes, 15, 16, 255, 256, 65535, 65536) {
			want := places >= 1 && places <= 4 && tuples >= 0 && tuples <= greatestTuples(places)
			if r := (impl.Relation{Places: places, Tuples: tuples}); impl.IsRelation(r) != want {
				t.Errorf("IsRelation(%v) = %v", r, !want)
			}
		}
	}
}

func TestCountTuples(t *testing.T) {
	for _, r := range append(upToPlaces(3), relationsOf(4, 1)...) {
		want := int64(len(modelTuples(r)))
		if got, code := impl.CountTuples(r); got != want || code != impl.ErrNone {
			t.Errorf("CountTuples(%v) = %d, %d, want %d", r, got, code, want)
		}
	}
	for _, r := range brokenRelations() {
		if got, code := impl.CountTuples(r); got != 0 || code != impl.ErrInvalid {
			t.Errorf("CountTuples(%v) = %d, %d", r, got, code)
		}
	}
}

func TestKeepsRelationAgainstTheDefinition(t *testing.T) {
	m := newKeepModel()
	check := func(list []impl.Func, relations []impl.Relation) {
		for _, f := range list {
			for _, r := range relations {
				want := m.keeps(f, r)
				if got, code := impl.KeepsRelation(f, r); got != want || code != impl.ErrNone {
					t.Errorf("KeepsRelation(%v, %v) = %v, %d, want %v", f, r, got, code, want)
				}
			}
		}
	}
	few := append(classRelations(), impl.Relation{Places: 3, Tuples: 0b10010110}, impl.Relation{Places: 3, Tuples: 0b11101000}, impl.Relation{Places: 4, Tuples: 0b1000000000010111})
	check(upToArity(2), append(upToPlaces(3), relationsOf(4, 97)...))
	check(funcsOf(3, 1), slices.Concat(upToPlaces(2), relationsOf(3, 7), relationsOf(4, 4099), few))
	check(funcsOf(4, 97), slices.Concat(upToPlaces(2), relationsOf(3, 31), few))
	check(funcsByText(t, "4:0000000000000000", "4:1111111111111111", "4:0000000000000001", "4:0110100110010110", "4:0000000100010111", "4:0001000100011111", "4:0101010101010101", "4:0000000011111111"), smallAndSomeWide()[200:])
}

func TestKeepsRelation(t *testing.T) {
	cases := []struct {
		f              string
		places, tuples int64
		want           bool
	}{
		{"0:0", 1, 0, false}, {"0:0", 1, 1, true}, {"0:0", 1, 2, false}, {"0:0", 1, 3, true},
		{"0:1", 1, 0, false}, {"0:1", 1, 1, false}, {"0:1", 1, 2, true}, {"0:1", 2, 8, true}, {"0:1", 2, 7, false},
		{"0:0", 4, 65534, false}, {"0:0", 4, 1, true}, {"0:1", 4, 32767, false}, {"0:1", 4, 32768, true}, {"0:1", 3, 128, true},
		{"1:00", 1, 0, true}, {"1:11", 4, 0, true}, {"2:1110", 3, 0, true}, {"4:1111111111111111", 4, 0, true},
		{"1:00", 1, 2, false}, {"1:11", 2, 1, false}, {"1:10", 1, 1, false}, {"1:10", 2, 6, true}, {"1:10", 2, 9, true}, {"1:10", 2, 13, false},
		{"2:0001", 2, 13, true}, {"2:0110", 2, 13, false}, {"2:1110", 4, 65535, true},
		{"2:0001", 2, 7, true}, {"2:0111", 2, 7, false}, {"2:0001", 2, 14, false}, {"2:0111", 2, 14, true},
		{"2:0010", 2, 13, false}, {"2:0100", 2, 13, false}, {"2:0100", 1, 1, true}, {"2:1011", 1, 1, false},
		{"3:00010111", 2, 6, true}, {"3:00010111", 2, 7, true}, {"3:00010111", 2, 13, true}, {"3:00010111", 3, 22, false},
		{"3:01101001", 3, 150, true}, {"3:01101001", 2, 6, true}, {"3:01101001", 2, 7, false},
		{"4:0110100110010110", 3, 105, true}, {"4:0110100110010110", 3, 150, false}, {"4:0001011101111111", 2, 6, false},
	}
	for _, c := range cases {
		r := impl.Relation{Places: c.places, Tuples: c.tuples}
		if got, code := impl.KeepsRelation(parsed(t, c.f), r); got != c.want || code != impl.ErrNone {
			t.Errorf("KeepsRelation(%s, %v) = %v, %d", c.f, r, got, code)
		}
	}
}

// TestClassesAreThoseOfRelations holds chapter 6 against chapter 2, for all functions.
func TestClassesAreThoseOfRelations(t *testing.T) {
	for k, r := range classRelations() {
		for _, f := range append(upToArity(3), funcsOf(4, 1)...) {
			want, _ := impl.IsInClass(f, int64(k))
			if got, code := impl.KeepsRelation(f, r); got != want || code != impl.ErrNone {
				t.Fatalf("KeepsRelation(%v, %v) = %v, %d, but IsInClass for %d = %v", f, r, got, code, k, want)
			}
		}
		for n := range int64(4) {
			want, _ := impl.CountInClass(n, int64(k))
			if got, code := impl.FunctionsKeeping([]impl.Relation{r}, n); int64(len(got)) != want || code != impl.ErrNone {
				t.Errorf("FunctionsKeeping %v of %d: %d functions, %d, but CountInClass for %d = %d", r, n, len(got), code, k, want)
			}
		}
	}
}

// TestProjectionsKeepAllRelations also has every relation with all tuples, and those with none.
func TestProjectionsKeepAllRelations(t *testing.T) {
	for n := int64(1); n <= 4; n++ {
		for i := range n {
			f, _ := impl.ProjectionOf(n, i)
			for _, r := range smallAndSomeWide() {
				if got, code := impl.KeepsRelation(f, r); !got || code != impl.ErrNone {
					t.Errorf("KeepsRelation(%v, %v) = %v, %d", f, r, got, code)
				}
			}
		}
	}
	for _, f := range smallAndSomeLarge() {
		for places := int64(1); places <= 4; places++ {
			none, _ := impl.KeepsRelation(f, impl.Relation{Places: places})
			all, _ := impl.KeepsRelation(f, impl.Relation{Places: places, Tuples: greatestTuples(places)})
			if none != (f.Arity > 0) || !all {
				t.Errorf("KeepsRelation of %v with %d places: %v of no tuples, %v of all", f, places, none, all)
			}
		}
	}
}

// relationLists has lists of up to MaxRelations relations, some of them with a relation twice.
func relationLists() [][]impl.Relation {
	pool := append(classRelations(), []impl.Relation{
		{Places: 1, Tuples: 0}, {Places: 2, Tuples: 15}, {Places: 2, Tuples: 7}, {Places: 2, Tuples: 14}, {Places: 2, Tuples: 9},
		{Places: 3, Tuples: 0b11101000}, {Places: 3, Tuples: 0b10010110}, {Places: 3, Tuples: 0b01111111}, {Places: 4, Tuples: 0b1000000000010111},
	}...)
	lists := [][]impl.Relation{nil, {}}
	for _, r := range append(upToPlaces(2), pool...) {
		lists = append(lists, []impl.Relation{r})
	}
	for step := range len(pool) {
		for length := 2; length <= impl.MaxRelations; length++ {
			var list []impl.Relation
			for i := range length {
				list = append(list, pool[(step+i*(1+step%5))%len(pool)])
			}
			lists = append(lists, list)
		}
	}
	return lists
}

func TestFunctionsKeepingAgainstTheDefinition(t *testing.T) {
	m := newKeepModel()
	for _, list := range relationLists() {
		for n := range int64(4) {
			var want []impl.Func
			for _, f := range funcsOf(n, 1) {
				if m.keepsAll(f, list) {
					want = append(want, f)
				}
			}
			if got, code := impl.FunctionsKeeping(list, n); !slices.Equal(got, want) || code != impl.ErrNone {
				t.Errorf("FunctionsKeeping(%v, %d) = %v, %d, want %v", list, n, got, code, want)
			}
		}
	}
}

func TestFunctionsKeeping(t *testing.T) {
	class := classRelations()
	cases := []struct {
		list []impl.Relation
		want [4]int
	}{
		{nil, [4]int{2, 4, 16, 256}},
		{[]impl.Relation{{Places: 3, Tuples: 0}}, [4]int{0, 4, 16, 256}},
		{[]impl.Relation{{Places: 4, Tuples: 65535}}, [4]int{2, 4, 16, 256}},
		{class[0:1], [4]int{1, 2, 8, 128}},
		{class[1:2], [4]int{1, 2, 8, 128}},
		{class[0:2], [4]int{0, 1, 4, 64}},
		{class[2:3], [4]int{0, 2, 4, 16}},
		{class[3:4], [4]int{2, 3, 6, 20}},
		{class[4:5], [4]int{2, 4, 8, 16}},
		{class[2:4], [4]int{0, 1, 2, 4}},
		{class[2:5], [4]int{0, 1, 2, 3}},
		{class, [4]int{0, 1, 2, 3}},
		{append(class, impl.Relation{Places: 2, Tuples: 7}), [4]int{0, 1, 2, 3}},
		{[]impl.Relation{{Places: 2, Tuples: 7}}, [4]int{1, 2, 6, 40}},
		{slices.Repeat(class[3:4], impl.MaxRelations), [4]int{2, 3, 6, 20}},
	}
	for _, c := range cases {
		for n, want := range c.want {
			if got, code := impl.FunctionsKeeping(c.list, int64(n)); len(got) != want || code != impl.ErrNone {
				t.Errorf("FunctionsKeeping(%v, %d) = %v, %d, want %d functions", c.list, n, got, code, want)
			}
		}
	}
	got, _ := impl.FunctionsKeeping(class[3:4], 2)
	if want := funcsByText(t, "2:0000", "2:0001", "2:0101", "2:0011", "2:0111", "2:1111"); !slices.Equal(got, want) {
		t.Errorf("FunctionsKeeping(%v, 2) = %v, want %v", class[3], got, want)
	}
}

func TestRelationsKeptAgainstTheDefinition(t *testing.T) {
	m := newKeepModel()
	lists := slices.Concat(every(shortLists(), 3), wideLists(t, 2), wideLists(t, 3), every(wideLists(t, 4), 5))
	for _, f := range append(every(funcsOf(3, 1), 5), every(funcsOf(4, 1), 9001)...) {
		lists = append(lists, []impl.Func{f})
	}
	for _, list := range lists {
		for places := int64(1); places <= 3; places++ {
			var want []impl.Relation
			for _, r := range relationsOf(places, 1) {
				if m.allKeep(list, r) {
					want = append(want, r)
				}
			}
			if got, code := impl.RelationsKept(list, places); !slices.Equal(got, want) || code != impl.ErrNone {
				t.Errorf("RelationsKept(%v, %d) = %v, %d, want %v", list, places, got, code, want)
			}
		}
	}
}

func TestRelationsKept(t *testing.T) {
	cases := []struct {
		texts  []string
		places int64
		want   []int64
	}{
		{nil, 1, []int64{0, 1, 2, 3}},
		{nil, 2, []int64{0, 1, 2, 3, 4, 5, 6, 7, 8, 9, 10, 11, 12, 13, 14, 15}},
		{[]string{"1:01"}, 1, []int64{0, 1, 2, 3}},
		{[]string{"1:10"}, 1, []int64{0, 3}},
		{[]string{"0:0"}, 1, []int64{1, 3}},
		{[]string{"0:1"}, 1, []int64{2, 3}},
		{[]string{"0:0", "0:1"}, 1, []int64{3}},
		{[]string{"1:00"}, 1, []int64{0, 1, 3}},
		{[]string{"1:10"}, 2, []int64{0, 6, 9, 15}},
		{[]string{"2:1110"}, 1, []int64{0, 3}},
		{[]string{"2:1110"}, 2, []int64{0, 9, 15}},
		{[]string{"2:1110", "0:0"}, 2, []int64{9, 15}},
		{[]string{"2:0001"}, 2, []int64{0, 1, 2, 3, 4, 5, 7, 8, 9, 10, 11, 12, 13, 15}},
		{[]string{"2:1110"}, 3, []int64{0, 129, 165, 195, 153, 255}},
	}
	for _, c := range cases {
		list := funcsByText(t, c.texts...)
		slices.Sort(c.want)
		var want []impl.Relation
		for _, tuples := range c.want {
			want = append(want, impl.Relation{Places: c.places, Tuples: tuples})
		}
		if got, code := impl.RelationsKept(list, c.places); !slices.Equal(got, want) || code != impl.ErrNone {
			t.Errorf("RelationsKept(%v, %d) = %v, %d, want %v", c.texts, c.places, got, code, want)
		}
	}
	for places, want := range map[int64]int{1: 4, 2: 16, 3: 256} {
		if got, code := impl.RelationsKept(nil, places); len(got) != want || code != impl.ErrNone {
			t.Errorf("RelationsKept(nil, %d) = %d relations, %d", places, len(got), code)
		}
	}
}

// closureLists has lists of all arities and lengths, the empty one and the longest ones among them.
func closureLists(t *testing.T) [][]impl.Func {
	lists := slices.Concat(every(shortLists(), 11), every(wideLists(t, 3), 4), every(wideLists(t, 4), 11))
	for _, text := range []string{"3:00010111", "3:01101001", "4:0110100110010110", "4:0000000100010111"} {
		lists = append(lists, funcsByText(t, text), funcsByText(t, text, "0:1"))
	}
	return lists
}

func TestClosuresAreTheLeastRelationsKept(t *testing.T) {
	m := newKeepModel()
	for _, list := range closureLists(t) {
		for places := int64(1); places <= 3; places++ {
			kept := slices.DeleteFunc(relationsOf(places, 1), func(r impl.Relation) bool { return !m.allKeep(list, r) })
			for _, r := range relationsOf(places, 1) {
				want := closureIn(kept, r)
				if len(want) != 1 {
					t.Fatalf("of %v and %v there are %v", list, r, want)
				}
				wantRelation(t, fmt.Sprintf("ClosureOf(%v, %v)", list, r), want[0], impl.ErrNone)(impl.ClosureOf(list, r))
			}
		}
	}
}

// TestClosuresOfFourPlaces looks for the least relation among those with all tuples of one that has 9 of
// them or more: for lesser ones there would be too many.
func TestClosuresOfFourPlaces(t *testing.T) {
	m := newKeepModel()
	lists := [][]impl.Func{nil}
	for _, texts := range [][]string{{"0:0"}, {"0:1", "0:0"}, {"1:10"}, {"2:0001"}, {"2:0111"}, {"2:0110"}, {"2:0111", "0:1"}, {"3:00010111"}, {"3:01101001"}} {
		lists = append(lists, funcsByText(t, texts...))
	}
	grown := 0
	for _, r := range relationsOf(4, 151) {
		if bits.OnesCount64(uint64(r.Tuples)) < 9 {
			continue
		}
		for _, list := range lists {
			var kept []impl.Relation
			free := 65535 - r.Tuples
			for more := free; ; more = (more - 1) & free {
				if s := (impl.Relation{Places: 4, Tuples: r.Tuples | more}); m.allKeep(list, s) {
					kept = append(kept, s)
				}
				if more == 0 {
					break
				}
			}
			want := closureIn(kept, r)
			if len(want) != 1 {
				t.Fatalf("of %v and %v there are %v", list, r, want)
			}
			if want[0] != r {
				grown++
			}
			wantRelation(t, fmt.Sprintf("ClosureOf(%v, %v)", list, r), want[0], impl.ErrNone)(impl.ClosureOf(list, r))
		}
	}
	if grown < 100 {
		t.Errorf("only %d relations were made greater", grown)
	}
}

// TestClosuresOfFewTuples has all relations of four places with up to three tuples.
func TestClosuresOfFewTuples(t *testing.T) {
	m := newKeepModel()
	lists := [][]impl.Func{baseOfFour(t), funcsByText(t, "2:0111", "1:10"), funcsByText(t, "3:00010111", "0:1")}
	for _, text := range []string{"1:00", "2:0001", "2:0111", "2:0110", "2:1011", "3:00010111", "3:01101001", "3:00011011", "4:0110100110010111"} {
		lists = append(lists, funcsByText(t, text))
	}
	for i, r := range relationsOf(4, 1) {
		if bits.OnesCount64(uint64(r.Tuples)) > 3 {
			continue
		}
		for _, list := range lists[i%3:] {
			wantRelation(t, fmt.Sprintf("ClosureOf(%v, %v)", list, r), m.closure(list, r), impl.ErrNone)(impl.ClosureOf(list, r))
		}
	}
}

func TestClosureOf(t *testing.T) {
	cases := []struct {
		texts  []string
		places int64
		tuples int64
		want   int64
	}{
		{nil, 1, 0, 0},
		{nil, 4, 12345, 12345},
		{[]string{"0:0"}, 1, 0, 1},
		{[]string{"0:1"}, 2, 0, 8},
		{[]string{"0:1"}, 4, 1, 32769},
		{[]string{"0:0", "0:1"}, 3, 0, 129},
		{[]string{"1:10"}, 3, 0, 0},
		{[]string{"1:10", "0:0"}, 3, 0, 129},
		{[]string{"2:1110", "4:1111111111111111"}, 4, 0, 0},
		{[]string{"1:10"}, 1, 1, 3},
		{[]string{"2:0001"}, 2, 6, 7},
		{[]string{"2:0111"}, 2, 6, 14},
		{[]string{"2:0001", "2:0111"}, 2, 6, 15},
		{[]string{"2:0110"}, 3, 22, 255},
		{[]string{"3:01101001"}, 3, 22, 150},
		{[]string{"3:01101001"}, 4, 1<<0 | 1<<1 | 1<<2 | 1<<4 | 1<<8, 65535},
		{[]string{"3:00010111"}, 3, 22, 23},
		{[]string{"3:00010111"}, 2, 14, 14},
		{[]string{"2:1110"}, 4, 1<<10 | 1<<12, 65535},
		{[]string{"2:0001"}, 4, 1<<10 | 1<<12, 1<<8 | 1<<10 | 1<<12},
		{[]string{"2:0111", "2:0001", "0:1", "0:0", "3:00010111", "1:01", "2:0101", "1:00"}, 4, 1<<10 | 1<<12, 1<<0 | 1<<8 | 1<<10 | 1<<12 | 1<<14 | 1<<15},
	}
	for _, c := range cases {
		r, want := impl.Relation{Places: c.places, Tuples: c.tuples}, impl.Relation{Places: c.places, Tuples: c.want}
		wantRelation(t, fmt.Sprintf("ClosureOf(%v, %v)", c.texts, r), want, impl.ErrNone)(impl.ClosureOf(funcsByText(t, c.texts...), r))
	}
}

// TestClosuresOfProjectionsAreGenerated holds chapter 6 against chapter 4: functions of the arity 2 are
// tuples of four places, and Bits their numbers.
func TestClosuresOfProjectionsAreGenerated(t *testing.T) {
	projections := impl.Relation{Places: 4, Tuples: 1<<10 | 1<<12}
	for _, list := range listsFor(t, 2) {
		generated, _ := impl.GeneratedBy(list, 2)
		want := impl.Relation{Places: 4}
		for _, f := range generated {
			want.Tuples += 1 << f.Bits
		}
		wantRelation(t, fmt.Sprintf("ClosureOf(%v, %v)", list, projections), want, impl.ErrNone)(impl.ClosureOf(list, projections))
	}
}

// TestClosuresAreKept goes by what the program's own functions tell.
func TestClosuresAreKept(t *testing.T) {
	for _, list := range closureLists(t) {
		for i, r := range append(upToPlaces(3), relationsOf(4, 2003)...) {
			closure, code := impl.ClosureOf(list, r)
			if meet, _ := impl.MeetOf(r, closure); meet != r || code != impl.ErrNone || !impl.IsRelation(closure) {
				t.Errorf("ClosureOf(%v, %v) = %v, %d", list, r, closure, code)
			}
			for _, f := range list {
				if is, code := impl.KeepsRelation(f, closure); !is || code != impl.ErrNone {
					t.Errorf("ClosureOf(%v, %v) = %v is not kept by %v", list, r, closure, f)
				}
			}
			wantRelation(t, fmt.Sprintf("ClosureOf(%v, %v)", list, closure), closure, impl.ErrNone)(impl.ClosureOf(list, closure))
			if i%10 == 0 && r.Places <= 3 {
				kept, _ := impl.RelationsKept(list, r.Places)
				if !slices.Contains(kept, closure) || slices.Contains(kept, r) != (r == closure) {
					t.Errorf("RelationsKept(%v, %d) = %v, but ClosureOf %v = %v", list, r.Places, kept, r, closure)
				}
			}
		}
	}
}

func TestProductsAgainstTheDefinition(t *testing.T) {
	for _, r := range smallAndSomeWide() {
		for _, s := range smallAndSomeWide() {
			if r.Places+s.Places > 4 {
				continue
			}
			first, second := modelTuples(r), modelTuples(s)
			want := modelRelation(r.Places+s.Places, func(tuple []int64) bool {
				return hasTuple(first, tuple[:r.Places]) && hasTuple(second, tuple[r.Places:])
			})
			wantRelation(t, fmt.Sprintf("ProductOf(%v, %v)", r, s), want, impl.ErrNone)(impl.ProductOf(r, s))
		}
	}
}

// TestProductsHaveProductsOfTuples goes by what the program's own functions tell.
func TestProductsHaveProductsOfTuples(t *testing.T) {
	for _, r := range upToPlaces(3) {
		for _, s := range upToPlaces(4 - r.Places) {
			product, code := impl.ProductOf(r, s)
			a, _ := impl.CountTuples(r)
			b, _ := impl.CountTuples(s)
			count, countCode := impl.CountTuples(product)
			if count != a*b || product.Places != r.Places+s.Places || code != impl.ErrNone || countCode != impl.ErrNone {
				t.Errorf("ProductOf(%v, %v) = %v, %d, with %d tuples", r, s, product, code, count)
			}
			if count > 0 {
				places := []int64{0, 1, 2, 3}[:product.Places]
				wantRelation(t, "the first projection of a product", r, impl.ErrNone)(impl.ProjectRelation(product, places[:r.Places]))
				wantRelation(t, "the last projection of a product", s, impl.ErrNone)(impl.ProjectRelation(product, places[r.Places:]))
			}
		}
	}
}

func TestProductErrors(t *testing.T) {
	for places := int64(1); places <= 4; places++ {
		for others := int64(1); others <= 4; others++ {
			want, wantCode := impl.Relation{}, int64(impl.ErrLimit)
			if places+others <= 4 {
				want, wantCode = impl.Relation{Places: places + others, Tuples: greatestTuples(places + others)}, impl.ErrNone
			}
			r, s := impl.Relation{Places: places, Tuples: greatestTuples(places)}, impl.Relation{Places: others, Tuples: greatestTuples(others)}
			wantRelation(t, fmt.Sprintf("ProductOf(%v, %v)", r, s), want, wantCode)(impl.ProductOf(r, s))
			none := impl.Relation{Places: want.Places}
			r.Tuples = 0
			wantRelation(t, fmt.Sprintf("ProductOf(%v, %v)", r, s), none, wantCode)(impl.ProductOf(r, s))
		}
	}
}

// choicesOfPlaces has all lists of at least one different places.
func choicesOfPlaces(count int64) [][]int64 {
	var choices [][]int64
	for _, order := range permutationsOf(count) {
		for length := range order {
			if choice := order[:length+1]; !hasTuple(choices, choice) {
				choices = append(choices, choice)
			}
		}
	}
	return choices
}

func TestProjectionsAgainstTheDefinition(t *testing.T) {
	for count, want := range map[int64]int{1: 1, 2: 4, 3: 15, 4: 64} {
		if choices := choicesOfPlaces(count); len(choices) != want {
			t.Fatalf("%d places can be chosen in %d ways", count, len(choices))
		}
	}
	for _, r := range smallAndSomeWide() {
		for _, places := range choicesOfPlaces(r.Places) {
			var chosen [][]int64
			for _, tuple := range modelTuples(r) {
				var numbers []int64
				for _, place := range places {
					numbers = append(numbers, tuple[place])
				}
				chosen = append(chosen, numbers)
			}
			want := modelRelation(int64(len(places)), func(tuple []int64) bool { return hasTuple(chosen, tuple) })
			wantRelation(t, fmt.Sprintf("ProjectRelation(%v, %v)", r, places), want, impl.ErrNone)(impl.ProjectRelation(r, places))
		}
	}
}

func TestProjectRelation(t *testing.T) {
	cases := []struct {
		places, tuples int64
		to             []int64
		want           int64
	}{
		{2, 2, []int64{0}, 2}, {2, 2, []int64{1}, 1}, {2, 2, []int64{0, 1}, 2}, {2, 2, []int64{1, 0}, 4},
		{1, 0, []int64{0}, 0}, {4, 0, []int64{3, 1}, 0}, {4, 65535, []int64{2}, 3},
		{3, 1 << 4, []int64{2, 0, 1}, 1 << 1}, {3, 1 << 4, []int64{1, 2, 0}, 1 << 2}, {3, 1 << 6, []int64{0, 2}, 1 << 2},
		{4, 1 << 13, []int64{3, 2, 1, 0}, 1 << 11}, {4, 1<<13 | 1<<12, []int64{1, 0, 3}, 1<<4 | 1<<6},
	}
	for _, c := range cases {
		r, want := impl.Relation{Places: c.places, Tuples: c.tuples}, impl.Relation{Places: int64(len(c.to)), Tuples: c.want}
		wantRelation(t, fmt.Sprintf("ProjectRelation(%v, %v)", r, c.to), want, impl.ErrNone)(impl.ProjectRelation(r, c.to))
	}
}

func TestProjectRelationErrors(t *testing.T) {
	for _, r := range append(upToPlaces(2), impl.Relation{Places: 3, Tuples: 150}, impl.Relation{Places: 3}, impl.Relation{Places: 4, Tuples: 65535}, impl.Relation{Places: 4}) {
		lists := [][]int64{nil, {}, {0, 0}, {r.Places - 1, r.Places - 1}, {0, 1, 2, 3, 4}, {0, 1, 2, 3, 0}, make([]int64, 1000), slices.Repeat([]int64{math.MinInt64}, 1<<16)}
		for _, place := range extremes {
			if place < 0 || place >= r.Places {
				lists = append(lists, []int64{place}, []int64{0, place}, []int64{place, 0}, []int64{place, place})
			} else {
				lists = append(lists, []int64{place, place}, []int64{0, place, 0}, []int64{place, 0, r.Places - 1, place})
			}
		}
		for _, choice := range choicesOfPlaces(r.Places) {
			lists = append(lists, append(slices.Clone(choice), choice[0]), append(slices.Clone(choice), -1), append([]int64{r.Places}, choice...))
		}
		for _, places := range lists {
			wantRelation(t, fmt.Sprintf("ProjectRelation(%v, %.70s)", r, fmt.Sprint(places)), impl.Relation{}, impl.ErrRange)(impl.ProjectRelation(r, places))
		}
	}
}

func TestIdentifyPlacesAgainstTheDefinition(t *testing.T) {
	for _, r := range smallAndSomeWide() {
		tuples := modelTuples(r)
		for _, i := range extremes {
			for _, j := range extremes {
				want, wantCode := impl.Relation{}, int64(impl.ErrRange)
				if 0 <= i && i < j && j < r.Places {
					wantCode = impl.ErrNone
					want = modelRelation(r.Places-1, func(tuple []int64) bool {
						return hasTuple(tuples, slices.Insert(slices.Clone(tuple), int(j), tuple[i]))
					})
				}
				wantRelation(t, fmt.Sprintf("IdentifyPlaces(%v, %d, %d)", r, i, j), want, wantCode)(impl.IdentifyPlaces(r, i, j))
			}
		}
	}
}

func TestIdentifyPlaces(t *testing.T) {
	cases := []struct{ places, tuples, i, j, want int64 }{
		{2, 0, 0, 1, 0}, {2, 15, 0, 1, 3}, {2, 6, 0, 1, 0}, {2, 9, 0, 1, 3}, {2, 8, 0, 1, 2}, {2, 13, 0, 1, 3},
		{3, 1 << 5, 0, 1, 0}, {3, 1 << 5, 0, 2, 1 << 1}, {3, 1 << 5, 1, 2, 0}, {3, 1 << 6, 1, 2, 1 << 2}, {3, 1 << 3, 0, 1, 1 << 1}, {3, 1 << 4, 0, 1, 1 << 2},
		{4, 1 << 12, 0, 1, 1 << 6}, {4, 1 << 12, 2, 3, 1 << 4}, {4, 1 << 9, 0, 3, 1 << 1}, {4, 1 << 10, 1, 3, 1 << 2}, {4, 1<<10 | 1<<15 | 1<<3, 0, 2, 1<<6 | 1<<7},
	}
	for _, c := range cases {
		r, want := impl.Relation{Places: c.places, Tuples: c.tuples}, impl.Relation{Places: c.places - 1, Tuples: c.want}
		wantRelation(t, fmt.Sprintf("IdentifyPlaces(%v, %d, %d)", r, c.i, c.j), want, impl.ErrNone)(impl.IdentifyPlaces(r, c.i, c.j))
	}
}

func TestMeetsAgainstTheDefinition(t *testing.T) {
	relations := slices.Concat(upToPlaces(2), every(relationsOf(3, 1), 3), every(relationsOf(4, 1), 911), []impl.Relation{{Places: 3, Tuples: 255}, {Places: 4, Tuples: 65535}})
	for _, r := range relations {
		for _, s := range relations {
			want, wantCode := impl.Relation{}, int64(impl.ErrRange)
			if r.Places == s.Places {
				wantCode = impl.ErrNone
				want = modelRelation(r.Places, func(tuple []int64) bool { return modelHas(r, tuple) && modelHas(s, tuple) })
			}
			wantRelation(t, fmt.Sprintf("MeetOf(%v, %v)", r, s), want, wantCode)(impl.MeetOf(r, s))
		}
	}
}

func TestGraphsAgainstTheDefinition(t *testing.T) {
	for _, f := range upToArity(3) {
		want := modelRelation(f.Arity+1, func(tuple []int64) bool { return modelValue(f, tuple[:f.Arity]) == tuple[f.Arity] })
		wantRelation(t, fmt.Sprintf("GraphOf(%v)", f), want, impl.ErrNone)(impl.GraphOf(f))
		if count, code := impl.CountTuples(want); count != 1<<f.Arity || code != impl.ErrNone {
			t.Errorf("the graph of %v has %d tuples", f, count)
		}
	}
	for _, f := range append(funcsOf(4, 251), impl.Func{Arity: 4, Bits: 65535}) {
		wantRelation(t, fmt.Sprintf("GraphOf(%v)", f), impl.Relation{}, impl.ErrLimit)(impl.GraphOf(f))
	}
	for _, f := range brokenFuncs() {
		wantRelation(t, fmt.Sprintf("GraphOf(%v)", f), impl.Relation{}, impl.ErrInvalid)(impl.GraphOf(f))
	}
}

func TestGraphOf(t *testing.T) {
	cases := []struct {
		f              string
		places, tuples int64
	}{
		{"0:0", 1, 1}, {"0:1", 1, 2}, {"1:01", 2, 9}, {"1:10", 2, 6}, {"1:00", 2, 3}, {"1:11", 2, 12},
		{"2:0001", 3, 1<<0 | 1<<1 | 1<<2 | 1<<7}, {"2:0100", 3, 1<<0 | 1<<5 | 1<<2 | 1<<3},
		{"3:00000000", 4, 255}, {"3:11111111", 4, 65280}, {"3:01101001", 4, 0b1001011001101001},
	}
	for _, c := range cases {
		wantRelation(t, "GraphOf "+c.f, impl.Relation{Places: c.places, Tuples: c.tuples}, impl.ErrNone)(impl.GraphOf(parsed(t, c.f)))
	}
}

// keptRelations has relations of which many functions keep some.
func keptRelations() []impl.Relation {
	relations := append(classRelations(), upToPlaces(2)...)
	for _, f := range upToArity(2) {
		graph, _ := impl.GraphOf(f)
		relations = append(relations, graph)
	}
	return append(relations, every(relationsOf(3, 1), 9)...)
}

// TestWhatIsMadeOfRelationsIsKept goes by what the program's own functions tell.
func TestWhatIsMadeOfRelationsIsKept(t *testing.T) {
	made := 0
	for _, f := range append(upToArity(2), every(funcsOf(3, 1), 3)...) {
		var kept []impl.Relation
		for _, r := range keptRelations() {
			if is, _ := impl.KeepsRelation(f, r); is {
				kept = append(kept, r)
			}
		}
		check := func(r impl.Relation, code int64, how string, of ...impl.Relation) {
			t.Helper()
			if code != impl.ErrNone {
				return
			}
			made++
			if is, code := impl.KeepsRelation(f, r); !is || code != impl.ErrNone {
				t.Errorf("KeepsRelation(%v, %v) = %v, %d, but it keeps %v, of which it is made: %s", f, r, is, code, of, how)
			}
		}
		for i, r := range kept {
			for _, places := range choicesOfPlaces(r.Places) {
				projection, code := impl.ProjectRelation(r, places)
				check(projection, code, fmt.Sprint("projected to ", places), r)
			}
			for j := range int64(4) {
				identified, code := impl.IdentifyPlaces(r, j/2, j)
				check(identified, code, "identified", r)
			}
			for _, s := range kept[i/2 : i] {
				meet, code := impl.MeetOf(r, s)
				check(meet, code, "meet", r, s)
				product, code := impl.ProductOf(r, s)
				check(product, code, "product", r, s)
			}
		}
	}
	if made < 40000 {
		t.Errorf("only %d relations were made", made)
	}
}

// TestKeepingGoesBothWays goes by what the program's own functions tell.
func TestKeepingGoesBothWays(t *testing.T) {
	for _, list := range relationLists() {
		for n := range int64(4) {
			functions, _ := impl.FunctionsKeeping(list, n)
			for part := range slices.Chunk(every(functions, 1+len(functions)/24), impl.MaxList) {
				for places := int64(1); places <= 3; places++ {
					kept, code := impl.RelationsKept(part, places)
					for _, r := range list {
						if r.Places == places && !slices.Contains(kept, r) || code != impl.ErrNone {
							t.Errorf("RelationsKept(%v, %d) = %v, %d, but FunctionsKeeping has them for %v", part, places, kept, code, r)
						}
					}
				}
			}
		}
	}
}

func TestKeepsRelationErrors(t *testing.T) {
	for _, f := range append(brokenFuncs(), impl.Func{Arity: 2, Bits: 8}, impl.Func{}) {
		for _, r := range append(brokenRelations(), impl.Relation{Places: 2, Tuples: 13}, impl.Relation{Places: 4, Tuples: 65535}) {
			if impl.IsFunc(f) && impl.IsRelation(r) {
				continue
			}
			if is, code := impl.KeepsRelation(f, r); is || code != impl.ErrInvalid {
				t.Errorf("KeepsRelation(%v, %v) = %v, %d", f, r, is, code)
			}
		}
	}
}

func wantKeepingCode(t *testing.T, list []impl.Relation, n int64, want int64) {
	t.Helper()
	if functions, code := impl.FunctionsKeeping(list, n); code != want || want != impl.ErrNone && len(functions) != 0 {
		t.Errorf("FunctionsKeeping of %d relations and %d: %d functions, %d, want the code %d", len(list), n, len(functions), code, want)
	}
}

func TestFunctionsKeepingErrors(t *testing.T) {
	order := impl.Relation{Places: 2, Tuples: 13}
	for _, n := range extremes {
		for _, length := range []int{0, 1, impl.MaxRelations, impl.MaxRelations + 1, impl.MaxRelations + 2, 1 << 16} {
			want := int64(impl.ErrRange)
			if n >= 0 && n <= 3 && length <= impl.MaxRelations {
				want = impl.ErrNone
			}
			list := slices.Repeat([]impl.Relation{order}, length)
			wantKeepingCode(t, list, n, want)
			for _, broken := range brokenRelations() {
				if length > 0 {
					list[length-1] = broken
					wantKeepingCode(t, list, n, impl.ErrInvalid)
					list[length-1], list[0] = list[0], broken
					wantKeepingCode(t, list, n, impl.ErrInvalid)
					list[0] = order
				}
			}
		}
	}
}

func wantKeptCode(t *testing.T, list []impl.Func, places int64, want int64) {
	t.Helper()
	if relations, code := impl.RelationsKept(list, places); code != want || want != impl.ErrNone && len(relations) != 0 {
		t.Errorf("RelationsKept of %d functions and %d: %d relations, %d, want the code %d", len(list), places, len(relations), code, want)
	}
}

func TestRelationsKeptErrors(t *testing.T) {
	and := impl.Func{Arity: 2, Bits: 8}
	for _, places := range extremes {
		for _, length := range []int{0, 1, impl.MaxList, impl.MaxList + 1, impl.MaxList + 2, 1 << 16} {
			want := int64(impl.ErrRange)
			if places >= 1 && places <= 3 && length <= impl.MaxList {
				want = impl.ErrNone
			}
			list := slices.Repeat([]impl.Func{and}, length)
			wantKeptCode(t, list, places, want)
			for _, broken := range brokenFuncs() {
				if length > 0 {
					list[length-1] = broken
					wantKeptCode(t, list, places, impl.ErrInvalid)
					list[length-1], list[0] = list[0], broken
					wantKeptCode(t, list, places, impl.ErrInvalid)
					list[0] = and
				}
			}
		}
	}
	four := slices.Repeat(funcsByText(t, "4:0000000000000001"), impl.MaxList)
	wantKeptCode(t, four, 3, impl.ErrNone)
}

func TestClosureErrors(t *testing.T) {
	and := impl.Func{Arity: 2, Bits: 8}
	r := impl.Relation{Places: 2, Tuples: 6}
	for _, length := range []int{0, 1, impl.MaxList, impl.MaxList + 1, impl.MaxList + 2, 1 << 16} {
		list := slices.Repeat([]impl.Func{and}, length)
		call := fmt.Sprintf("ClosureOf of %d functions", length)
		switch {
		case length == 0:
			wantRelation(t, call, r, impl.ErrNone)(impl.ClosureOf(list, r))
		case length <= impl.MaxList:
			wantRelation(t, call, impl.Relation{Places: 2, Tuples: 7}, impl.ErrNone)(impl.ClosureOf(list, r))
		default:
			wantRelation(t, call, impl.Relation{}, impl.ErrRange)(impl.ClosureOf(list, r))
		}
		for _, broken := range brokenRelations() {
			wantRelation(t, fmt.Sprint(call, " and ", broken), impl.Relation{}, impl.ErrInvalid)(impl.ClosureOf(list, broken))
		}
		for _, broken := range brokenFuncs() {
			if length > 0 {
				list[length-1] = broken
				wantRelation(t, fmt.Sprint(call, ", with ", broken), impl.Relation{}, impl.ErrInvalid)(impl.ClosureOf(list, r))
				wantRelation(t, fmt.Sprint(call, ", with ", broken), impl.Relation{}, impl.ErrInvalid)(impl.ClosureOf(list, impl.Relation{}))
			}
		}
	}
}

// TestInvalidComesFirstOfRelations has relations that are none beside good and bad arguments of all kinds.
func TestInvalidComesFirstOfRelations(t *testing.T) {
	good := []impl.Relation{{Places: 1, Tuples: 1}, {Places: 2, Tuples: 13}, {Places: 4, Tuples: 65535}}
	for _, broken := range brokenRelations() {
		for _, other := range append(good, brokenRelations()...) {
			wantRelation(t, fmt.Sprintf("ProductOf(%v, %v)", broken, other), impl.Relation{}, impl.ErrInvalid)(impl.ProductOf(broken, other))
			wantRelation(t, fmt.Sprintf("ProductOf(%v, %v)", other, broken), impl.Relation{}, impl.ErrInvalid)(impl.ProductOf(other, broken))
			wantRelation(t, fmt.Sprintf("MeetOf(%v, %v)", broken, other), impl.Relation{}, impl.ErrInvalid)(impl.MeetOf(broken, other))
			wantRelation(t, fmt.Sprintf("MeetOf(%v, %v)", other, broken), impl.Relation{}, impl.ErrInvalid)(impl.MeetOf(other, broken))
		}
		for _, places := range [][]int64{nil, {0}, {1, 0}, {0, 0}, {-1}, {math.MaxInt64}, {0, 1, 2, 3, 4}} {
			wantRelation(t, fmt.Sprintf("ProjectRelation(%v, %v)", broken, places), impl.Relation{}, impl.ErrInvalid)(impl.ProjectRelation(broken, places))
		}
		for _, i := range extremes {
			for _, j := range extremes {
				wantRelation(t, fmt.Sprintf("IdentifyPlaces(%v, %d, %d)", broken, i, j), impl.Relation{}, impl.ErrInvalid)(impl.IdentifyPlaces(broken, i, j))
			}
		}
	}
}

// tellRelations returns all that the functions of the chapter tell of lists.
func tellRelations(list []impl.Func, relations []impl.Relation, places []int64) string {
	functions, a := impl.FunctionsKeeping(relations, 2)
	kept, b := impl.RelationsKept(list, 2)
	text := fmt.Sprint(functions, a, kept, b)
	for _, r := range relations {
		closure, c := impl.ClosureOf(list, r)
		projection, d := impl.ProjectRelation(r, places)
		identified, e := impl.IdentifyPlaces(r, 0, 1)
		product, f := impl.ProductOf(r, relations[0])
		meet, g := impl.MeetOf(r, relations[0])
		text += fmt.Sprint(closure, c, projection, d, identified, e, product, f, meet, g)
	}
	return text
}

func TestListsOfRelationsStayAsTheyAre(t *testing.T) {
	list := funcsByText(t, "2:0111", "0:0", "3:00010111", "1:01", "2:0001", "2:0001", "0:1", "2:0101")
	relations := append(classRelations(), impl.Relation{Places: 3, Tuples: 22})
	places := []int64{2, 0, 1, 3}
	keptList, keptRelations, keptPlaces := slices.Clone(list), slices.Clone(relations), slices.Clone(places)
	for length := range len(list) + 1 {
		tellRelations(list[:length], relations[:min(length, len(relations))], places[:min(length, len(places))])
		if !slices.Equal(list, keptList) || !slices.Equal(relations, keptRelations) || !slices.Equal(places, keptPlaces) {
			t.Fatalf("the lists became %v, %v, %v", list, relations, places)
		}
	}
}

// TestRelationsAtOnce has calls that go on at the same time, and each of them more than once.
func TestRelationsAtOnce(t *testing.T) {
	var calls sync.WaitGroup
	relations := relationLists()
	for i, list := range wideLists(t, 3) {
		some := relations[len(relations)-1-i]
		want := tellRelations(list, some, []int64{1, 0})
		for range 4 {
			calls.Go(func() {
				if got := tellRelations(list, some, []int64{1, 0}); got != want {
					t.Errorf("of %v and %v: %s, and at another time %s", list, some, got, want)
				}
			})
		}
	}
	calls.Wait()
}

func TestResultsOfRelationsAreNewMemory(t *testing.T) {
	list := funcsByText(t, "2:0001", "2:0111")
	relations := []impl.Relation{{Places: 2, Tuples: 13}, {Places: 3, Tuples: 22}}
	want := tellRelations(list, relations, []int64{1})
	for range 2 {
		functions, _ := impl.FunctionsKeeping(relations, 2)
		clear(functions[:cap(functions)])
		kept, _ := impl.RelationsKept(list, 2)
		clear(kept[:cap(kept)])
	}
	if got := tellRelations(list, relations, []int64{1}); got != want {
		t.Errorf("after a change of the last results: %s, want %s", got, want)
	}
}
