package tests

import (
	"fmt"
	"math"
	"math/rand/v2"
	"runtime"
	"slices"
	"sync"
	"testing"

	"loop.example/g01323/impl"
)

// The model looks at assignments as lists of values, one for each variable, in the order of their numbers.

func modelSatisfies(values []int64, c impl.Clause) bool {
	var tuple []int64
	for _, v := range c.Vars {
		tuple = append(tuple, values[v])
	}
	return modelHas(c.Relation, tuple)
}

func modelSolutions(x impl.Instance) [][]int64 {
	var solutions [][]int64
	for _, values := range allArguments(x.Vars) {
		if !slices.ContainsFunc(x.Clauses, func(c impl.Clause) bool { return !modelSatisfies(values, c) }) {
			solutions = append(solutions, values)
		}
	}
	return solutions
}

func numbersOfLists(lists [][]int64) []int64 {
	var numbers []int64
	for _, list := range lists {
		numbers = append(numbers, rowOf(list))
	}
	return numbers
}

// modelForced has for each variable the only value that it has in a list of solutions, or 2.
func modelForced(vars int64, solutions [][]int64) []int64 {
	var forced []int64
	for v := range vars {
		value := solutions[0][v]
		if slices.ContainsFunc(solutions, func(values []int64) bool { return values[v] != value }) {
			value = 2
		}
		forced = append(forced, value)
	}
	return forced
}

func modelMeet(vars int64, solutions [][]int64) int64 {
	var meet []int64
	for _, value := range modelForced(vars, solutions) {
		meet = append(meet, value%2)
	}
	return rowOf(meet)
}

// leastOfModel looks for solutions of the size 0, of the size 1, and so on.
func leastOfModel(solutions [][]int64) int64 {
	for size := int64(0); ; size++ {
		for _, values := range solutions {
			if sumOf(values) == size {
				return rowOf(values)
			}
		}
	}
}

// domainSets has for each variable whether it can have the value 0, and 1.
type domainSets [][2]bool

func setsOf(domains []int64) domainSets {
	sets := domainSets{}
	for _, number := range domains {
		sets = append(sets, [2]bool{number != 1, number != 0})
	}
	return sets
}

func (d domainSets) numbers() ([]int64, int64) {
	var numbers []int64
	for _, set := range d {
		switch set {
		case [2]bool{}:
			return nil, impl.ErrNotFound
		case [2]bool{true, true}:
			numbers = append(numbers, 2)
		case [2]bool{true, false}:
			numbers = append(numbers, 0)
		default:
			numbers = append(numbers, 1)
		}
	}
	return numbers, impl.ErrNone
}

// supports looks for a tuple of c that has the value at the place, has at each place a value of its domain, and
// has equal values at places with the same variable.
func (d domainSets) supports(c impl.Clause, place int, value int64) bool {
	return slices.ContainsFunc(modelTuples(c.Relation), func(tuple []int64) bool {
		if tuple[place] != value {
			return false
		}
		for p, v := range c.Vars {
			for q, w := range c.Vars {
				if v == w && tuple[p] != tuple[q] || !d[v][tuple[p]] {
					return false
				}
			}
		}
		return true
	})
}

func modelNarrowed(x impl.Instance, domains []int64) ([]int64, int64) {
	sets := setsOf(domains)
	for changed := true; changed; {
		changed = false
		for _, c := range x.Clauses {
			for place, v := range c.Vars {
				for value := range int64(2) {
					if sets[v][value] && !sets.supports(c, place, value) {
						sets[v][value], changed = false, true
					}
				}
			}
		}
	}
	return sets.numbers()
}

func (d domainSets) areStable(x impl.Instance) bool {
	for _, c := range x.Clauses {
		for place, v := range c.Vars {
			for value := range int64(2) {
				if d[v][value] && !d.supports(c, place, value) {
					return false
				}
			}
		}
	}
	return true
}

// joinOfStable joins all domains, empty ones too, that lose nothing and are within the given ones: these are the
// narrowed domains, in whatever order values are taken out.
func joinOfStable(x impl.Instance, domains []int64) ([]int64, int64) {
	given := setsOf(domains)
	join := make(domainSets, x.Vars)
	for _, bits := range allArguments(2 * x.Vars) {
		part := make(domainSets, x.Vars)
		for i, bit := range bits {
			part[i/2][i%2] = bit == 1 && given[i/2][i%2]
		}
		if part.areStable(x) {
			for v := range part {
				join[v] = [2]bool{join[v][0] || part[v][0], join[v][1] || part[v][1]}
			}
		}
	}
	return join.numbers()
}

// areWithin reports whether each value is in the domain of its variable.
func areWithin(values []int64, domains []int64) bool {
	for v, value := range values {
		if domains[v] != 2 && domains[v] != value {
			return false
		}
	}
	return true
}

func domainLists(vars int64) [][]int64 {
	lists := [][]int64{{}}
	for range vars {
		var longer [][]int64
		for _, list := range lists {
			for number := range int64(3) {
				longer = append(longer, append(slices.Clone(list), number))
			}
		}
		lists = longer
	}
	return lists
}

// someDomains has all domains of up to three variables, and of more those with both values and some drawn ones.
func someDomains(r *rand.Rand, vars int64) [][]int64 {
	if vars <= 3 {
		return domainLists(vars)
	}
	lists := [][]int64{allEqual(vars, 2)}
	for range 12 {
		list := allEqual(vars, 2)
		for range r.IntN(4) {
			list[r.Int64N(vars)] = r.Int64N(2)
		}
		lists = append(lists, list)
	}
	return lists
}

// easyModel has the rows of relations that were looked at.
type easyModel struct {
	keep keepModel
	fns  []impl.Func
	rows map[impl.Relation][]int64
}

func newEasyModel(t *testing.T) easyModel {
	t.Helper()
	return easyModel{newKeepModel(), funcsByText(t, "2:0001", "2:0111", "3:00010111", "3:01101001"), map[impl.Relation][]int64{}}
}

func (m easyModel) row(r impl.Relation) []int64 {
	if row, found := m.rows[r]; found {
		return row
	}
	row := []int64{0, 0, 0, 0, 0, 0}
	for v := range int64(2) {
		if modelHas(r, allEqual(r.Places, v)) {
			row[v] = 1
		}
	}
	for k, f := range m.fns {
		if m.keep.keeps(f, r) {
			row[2+k] = 1
		}
	}
	m.rows[r] = row
	return row
}

func (m easyModel) classesOf(x impl.Instance) []int64 {
	var classes []int64
	for k := range int64(6) {
		if !slices.ContainsFunc(x.Clauses, func(c impl.Clause) bool { return m.row(c.Relation)[k] == 0 }) {
			classes = append(classes, k)
		}
	}
	return classes
}

// pool has relations of all numbers of places in a class, or of all classes and of none for k = -1. Few relations
// of four places are kept by a function by chance: so there are closures of some with few tuples, too.
func (m easyModel) pool(k int) []impl.Relation {
	candidates := slices.Concat(upToPlaces(2), every(relationsOf(3, 1), 3), relationsOf(4, 401))
	for _, r := range relationsOf(4, 577) {
		few := impl.Relation{Places: 4, Tuples: r.Tuples & (r.Tuples >> 3) & 0b1011_0110_1101_1101}
		candidates = append(candidates, few, impl.Relation{Places: 4, Tuples: 65535 - few.Tuples})
		if k >= 2 {
			candidates = append(candidates, m.keep.closure(m.fns[k-2:k-1], few))
		}
	}
	return slices.DeleteFunc(candidates, func(r impl.Relation) bool { return k >= 0 && m.row(r)[k] == 0 })
}

// drawInstances draws numbers of variables and of Clauses, their relations from a pool, and their variables.
func drawInstances(seed uint64, count int, pool []impl.Relation) []impl.Instance {
	r := rand.New(rand.NewPCG(9, seed))
	var list []impl.Instance
	for range count {
		x := impl.Instance{Vars: 1 + r.Int64N(impl.MaxVars)}
		for range r.IntN(impl.MaxClauses+1) >> r.IntN(3) {
			c := impl.Clause{Relation: pool[r.IntN(len(pool))]}
			for range c.Relation.Places {
				c.Vars = append(c.Vars, r.Int64N(x.Vars))
			}
			x.Clauses = append(x.Clauses, c)
		}
		list = append(list, x)
	}
	return list
}

// oneClauseInstances has for each relation all instances with one Clause of it, at all variables.
func oneClauseInstances(vars int64, relations []impl.Relation) []impl.Instance {
	var list []impl.Instance
	for _, r := range relations {
		at := make([]int, r.Places)
		for more := true; more; more = advance(at, int(vars)) {
			c := impl.Clause{Relation: r}
			for _, v := range at {
				c.Vars = append(c.Vars, int64(v))
			}
			list = append(list, impl.Instance{Vars: vars, Clauses: []impl.Clause{c}})
		}
	}
	return list
}

// someInstances has some of all sizes: with and without Clauses, and drawn ones of all pools.
func someInstances(t *testing.T) []impl.Instance {
	t.Helper()
	var list []impl.Instance
	for vars := range int64(impl.MaxVars + 1) {
		list = append(list, impl.Instance{Vars: vars}, impl.Instance{Vars: vars, Clauses: []impl.Clause{}})
	}
	for vars := int64(1); vars <= 3; vars++ {
		list = append(list, oneClauseInstances(vars, upToPlaces(2))...)
	}
	list = append(list, every(oneClauseInstances(3, relationsOf(3, 5)), 3)...)
	list = append(list, every(oneClauseInstances(5, relationsOf(4, 2003)), 37)...)
	list = append(list, every(oneClauseInstances(8, relationsOf(2, 1)), 7)...)
	m := newEasyModel(t)
	for k := -1; k < 6; k++ {
		list = append(list, drawInstances(uint64(k+1), 160, m.pool(k))...)
	}
	return list
}

func sameInstance(a, b impl.Instance) bool {
	return a.Vars == b.Vars && slices.EqualFunc(a.Clauses, b.Clauses, func(c, d impl.Clause) bool {
		return c.Relation == d.Relation && slices.Equal(c.Vars, d.Vars)
	})
}

// cloned shares no memory with x.
func cloned(x impl.Instance) impl.Instance {
	other := impl.Instance{Vars: x.Vars}
	for _, c := range x.Clauses {
		other.Clauses = append(other.Clauses, impl.Clause{Relation: c.Relation, Vars: slices.Clone(c.Vars)})
	}
	return other
}

// wantList returns a check of a call that returns numbers and a code.
func wantList(t *testing.T, call string, want []int64, wantCode int64) func([]int64, int64) {
	t.Helper()
	return func(got []int64, code int64) {
		t.Helper()
		if !slices.Equal(got, want) || code != wantCode {
			t.Errorf("%s = %v, %d, want %v, %d", call, got, code, want, wantCode)
		}
	}
}

// wantInstance returns a check of a call that returns an instance and a code.
func wantInstance(t *testing.T, call string, want impl.Instance, wantCode int64) func(impl.Instance, int64) {
	t.Helper()
	return func(got impl.Instance, code int64) {
		t.Helper()
		if !sameInstance(got, want) || code != wantCode {
			t.Errorf("%s = %v, %d, want %v, %d", call, got, code, want, wantCode)
		}
	}
}

// Relations by name: 01 with 10, 00 with 01 and 11, one 1 of three at least, just one, an even sum, and others.
var (
	differs = impl.Relation{Places: 2, Tuples: 6}
	atMost  = impl.Relation{Places: 2, Tuples: 13}
	orElse  = impl.Relation{Places: 2, Tuples: 14}
	notBoth = impl.Relation{Places: 2, Tuples: 7}
	someOne = impl.Relation{Places: 3, Tuples: 254}
	justOne = impl.Relation{Places: 3, Tuples: 22}
	evenSum = impl.Relation{Places: 3, Tuples: 105}
	isZero  = impl.Relation{Places: 1, Tuples: 1}
	isOne   = impl.Relation{Places: 1, Tuples: 2}
	never   = impl.Relation{Places: 1, Tuples: 0}
	always  = impl.Relation{Places: 4, Tuples: 65535}
)

func on(r impl.Relation, vars ...int64) impl.Clause { return impl.Clause{Relation: r, Vars: vars} }

func instanceOf(vars int64, clauses ...impl.Clause) impl.Instance {
	return impl.Instance{Vars: vars, Clauses: clauses}
}

// chain has Clauses that order all variables, from the last two on, so that values go from one Clause to the one
// before it only.
func chain(vars int64) impl.Instance {
	x := impl.Instance{Vars: vars}
	for v := vars - 1; v > 0; v-- {
		x.Clauses = append(x.Clauses, on(atMost, v-1, v))
	}
	return x
}

// ofManyClauses has a Clause so many times.
func ofManyClauses(count int, vars int64, c impl.Clause) impl.Instance {
	return impl.Instance{Vars: vars, Clauses: slices.Repeat([]impl.Clause{c}, count)}
}

func TestConstraintLimits(t *testing.T) {
	if impl.MaxVars != 8 || impl.MaxClauses != 12 {
		t.Errorf("MaxVars is %d, MaxClauses is %d", impl.MaxVars, impl.MaxClauses)
	}
}

// brokenClauses has Clauses that are none in an instance of so many variables.
func brokenClauses(vars int64) []impl.Clause {
	list := []impl.Clause{{}, {Relation: isOne}, {Vars: []int64{0}}, on(isOne), on(isOne, 0, 0), on(differs, 0), on(differs, 0, 0, 0), on(always, 0, 0, 0), on(always, 0, 0, 0, 0, 0)}
	list = append(list, on(isOne, make([]int64, 1<<16)...), on(differs, []int64{}...))
	for _, r := range brokenRelations() {
		list = append(list, on(r), on(r, 0), on(r, 0, 0), on(r, 0, 0, 0, 0), on(r, 0, 0, 0, 0, 0))
	}
	for _, v := range []int64{-1, vars, vars + 1, 8, 62, 63, 64, 1 << 32, math.MaxInt64, math.MinInt64} {
		list = append(list, on(isOne, v), on(differs, v, 0), on(differs, 0, v), on(always, 0, v, 0, 0), on(always, 0, 0, 0, v))
	}
	return list
}

func brokenInstances() []impl.Instance {
	var list []impl.Instance
	for _, vars := range []int64{-1, 9, 10, 62, 63, 64, 1 << 32, math.MaxInt64, math.MinInt64} {
		list = append(list, impl.Instance{Vars: vars}, instanceOf(vars, on(isOne, 0)), ofManyClauses(13, vars, on(isOne, 0)))
	}
	list = append(list, instanceOf(0, on(isOne, 0)), instanceOf(0, on(always, 0, 0, 0, 0)), instanceOf(0, on(impl.Relation{})))
	for _, count := range []int{13, 14, 1 << 16} {
		list = append(list, ofManyClauses(count, 8, on(always, 0, 1, 2, 3)), ofManyClauses(count, 0, impl.Clause{}), ofManyClauses(count, 2, on(differs, 0, 2)))
	}
	good := on(orElse, 0, 0)
	for _, vars := range []int64{1, 3, 8} {
		for _, broken := range brokenClauses(vars) {
			list = append(list, instanceOf(vars, broken), instanceOf(vars, good, broken), instanceOf(vars, broken, good))
			twelve := ofManyClauses(12, vars, good)
			twelve.Clauses[11] = broken
			list = append(list, twelve)
		}
	}
	return list
}

func TestIsInstance(t *testing.T) {
	for _, x := range append(someInstances(t), ofManyClauses(12, 8, on(always, 7, 7, 0, 7)), ofManyClauses(12, 1, on(never, 0))) {
		if !impl.IsInstance(x) {
			t.Errorf("IsInstance(%v) = false", x)
		}
	}
	for _, x := range brokenInstances() {
		if impl.IsInstance(x) {
			t.Errorf("IsInstance of %d, %d Clauses, %.300s = true", x.Vars, len(x.Clauses), fmt.Sprint(x.Clauses))
		}
	}
}

// TestIsInstanceAtEachVariable has variables in and out of range at each place of Clauses of all numbers of places.
func TestIsInstanceAtEachVariable(t *testing.T) {
	for _, vars := range append(extremes, 6, 7, 8, 9) {
		for places := int64(1); places <= 4; places++ {
			for at := range places {
				for _, v := range append(extremes, 6, 7, 8, 9) {
					c := impl.Clause{Relation: impl.Relation{Places: places, Tuples: 1}, Vars: make([]int64, places)}
					c.Vars[at] = v
					want := vars >= 1 && vars <= 8 && v >= 0 && v < vars
					if x := instanceOf(vars, c); impl.IsInstance(x) != want {
						t.Errorf("IsInstance(%v) = %v", x, !want)
					}
				}
			}
		}
	}
}

func TestSolutionsAgainstTheDefinition(t *testing.T) {
	numbers := map[string]int{}
	list := append(someInstances(t), oneClauseInstances(3, relationsOf(3, 1))...)
	for _, x := range list {
		solutions := modelSolutions(x)
		call := fmt.Sprint(" of ", x)
		wantList(t, "SolutionsOf"+call, numbersOfLists(solutions), impl.ErrNone)(impl.SolutionsOf(x))
		wantCount(t, "CountSolutions"+call, int64(len(solutions)), impl.ErrNone)(impl.CountSolutions(x))
		switch len(solutions) {
		case 0:
			numbers["none"]++
			wantCount(t, "LeastSolution"+call, 0, impl.ErrNotFound)(impl.LeastSolution(x))
			wantCount(t, "MeetOfSolutions"+call, 0, impl.ErrNotFound)(impl.MeetOfSolutions(x))
			wantList(t, "ForcedOf"+call, nil, impl.ErrNotFound)(impl.ForcedOf(x))
			continue
		case 1:
			numbers["one"]++
		case 1 << x.Vars:
			numbers["all"]++
		default:
			numbers["some"]++
		}
		wantCount(t, "LeastSolution"+call, leastOfModel(solutions), impl.ErrNone)(impl.LeastSolution(x))
		wantCount(t, "MeetOfSolutions"+call, modelMeet(x.Vars, solutions), impl.ErrNone)(impl.MeetOfSolutions(x))
		wantList(t, "ForcedOf"+call, modelForced(x.Vars, solutions), impl.ErrNone)(impl.ForcedOf(x))
	}
	for _, kind := range []string{"none", "one", "some", "all"} {
		if numbers[kind] < 100 {
			t.Errorf("only %d instances have solutions of the kind %s", numbers[kind], kind)
		}
	}
}

func TestSolutions(t *testing.T) {
	twoSizes := impl.Relation{Places: 3, Tuples: 1<<3 | 1<<4}
	cases := []struct {
		x           impl.Instance
		solutions   []int64
		least, meet int64
		forced      []int64
	}{
		{instanceOf(0), []int64{0}, 0, 0, nil},
		{instanceOf(1), []int64{0, 1}, 0, 0, []int64{2}},
		{instanceOf(2), []int64{0, 1, 2, 3}, 0, 0, []int64{2, 2}},
		{instanceOf(1, on(isOne, 0)), []int64{1}, 1, 1, []int64{1}},
		{instanceOf(1, on(isZero, 0)), []int64{0}, 0, 0, []int64{0}},
		{instanceOf(1, on(always, 0, 0, 0, 0)), []int64{0, 1}, 0, 0, []int64{2}},
		{instanceOf(1, on(atMost, 0, 0)), []int64{0, 1}, 0, 0, []int64{2}},
		{instanceOf(1, on(orElse, 0, 0)), []int64{1}, 1, 1, []int64{1}},
		{instanceOf(2, on(orElse, 1, 1)), []int64{2, 3}, 2, 2, []int64{2, 1}},
		{instanceOf(2, on(differs, 0, 1)), []int64{1, 2}, 1, 0, []int64{2, 2}},
		{instanceOf(2, on(differs, 1, 0)), []int64{1, 2}, 1, 0, []int64{2, 2}},
		{instanceOf(2, on(atMost, 0, 1)), []int64{0, 2, 3}, 0, 0, []int64{2, 2}},
		{instanceOf(2, on(atMost, 1, 0)), []int64{0, 1, 3}, 0, 0, []int64{2, 2}},
		{instanceOf(2, on(orElse, 0, 1)), []int64{1, 2, 3}, 1, 0, []int64{2, 2}},
		{instanceOf(2, on(atMost, 0, 1), on(orElse, 0, 1)), []int64{2, 3}, 2, 2, []int64{2, 1}},
		{instanceOf(3, on(twoSizes, 0, 1, 2)), []int64{3, 4}, 4, 0, []int64{2, 2, 2}},
		{instanceOf(3, on(twoSizes, 2, 1, 0)), []int64{1, 6}, 1, 0, []int64{2, 2, 2}},
		{instanceOf(3, on(justOne, 0, 1, 2)), []int64{1, 2, 4}, 1, 0, []int64{2, 2, 2}},
		{instanceOf(3, on(justOne, 0, 0, 2)), []int64{4, 6}, 4, 4, []int64{0, 2, 1}},
		{instanceOf(3, on(justOne, 0, 1, 2), on(isZero, 0)), []int64{2, 4}, 2, 0, []int64{0, 2, 2}},
		{instanceOf(3, on(evenSum, 0, 1, 2), on(isOne, 2)), []int64{5, 6}, 5, 4, []int64{2, 2, 1}},
		{instanceOf(3, on(evenSum, 2, 2, 1)), []int64{0, 1, 4, 5}, 0, 0, []int64{2, 0, 2}},
		{instanceOf(4, on(someOne, 0, 1, 0), on(orElse, 2, 3), on(differs, 0, 2)), []int64{6, 9, 11, 14}, 6, 0, []int64{2, 2, 2, 2}},
		{chain(8), []int64{0, 128, 192, 224, 240, 248, 252, 254, 255}, 0, 0, allEqual(8, 2)},
		{ofManyClauses(12, 2, on(isOne, 1)), []int64{2, 3}, 2, 2, []int64{2, 1}},
		{instanceOf(8, on(always, 7, 6, 5, 4), on(impl.Relation{Places: 4, Tuples: 1}, 0, 1, 2, 3), on(impl.Relation{Places: 4, Tuples: 1 << 15}, 4, 5, 6, 7)), []int64{240}, 240, 240, []int64{0, 0, 0, 0, 1, 1, 1, 1}},
	}
	for _, c := range cases {
		call := fmt.Sprint(" of ", c.x)
		wantList(t, "SolutionsOf"+call, c.solutions, impl.ErrNone)(impl.SolutionsOf(c.x))
		wantCount(t, "CountSolutions"+call, int64(len(c.solutions)), impl.ErrNone)(impl.CountSolutions(c.x))
		wantCount(t, "LeastSolution"+call, c.least, impl.ErrNone)(impl.LeastSolution(c.x))
		wantCount(t, "MeetOfSolutions"+call, c.meet, impl.ErrNone)(impl.MeetOfSolutions(c.x))
		wantList(t, "ForcedOf"+call, c.forced, impl.ErrNone)(impl.ForcedOf(c.x))
	}
}

func TestInstancesWithoutSolutions(t *testing.T) {
	list := []impl.Instance{
		instanceOf(1, on(never, 0)),
		instanceOf(1, on(differs, 0, 0)),
		instanceOf(8, on(impl.Relation{Places: 4}, 0, 3, 5, 7)),
		instanceOf(2, on(isOne, 1), on(isZero, 1)),
		instanceOf(3, on(differs, 0, 1), on(differs, 1, 2), on(differs, 2, 0)),
		ofManyClauses(12, 8, on(never, 7)),
	}
	last := ofManyClauses(12, 8, on(always, 0, 0, 0, 0))
	last.Clauses[11] = on(justOne, 6, 6, 6)
	for _, x := range append(list, last) {
		call := fmt.Sprint(" of ", x)
		wantList(t, "SolutionsOf"+call, nil, impl.ErrNone)(impl.SolutionsOf(x))
		wantCount(t, "CountSolutions"+call, 0, impl.ErrNone)(impl.CountSolutions(x))
		wantCount(t, "LeastSolution"+call, 0, impl.ErrNotFound)(impl.LeastSolution(x))
		wantCount(t, "MeetOfSolutions"+call, 0, impl.ErrNotFound)(impl.MeetOfSolutions(x))
		wantList(t, "ForcedOf"+call, nil, impl.ErrNotFound)(impl.ForcedOf(x))
	}
}

func TestSolutionsWithoutClauses(t *testing.T) {
	for vars := range int64(impl.MaxVars + 1) {
		var all []int64
		for assignment := range int64(1) << vars {
			all = append(all, assignment)
		}
		full := impl.Instance{Vars: vars}
		if vars > 0 {
			full = ofManyClauses(impl.MaxClauses, vars, on(always, 0, vars-1, 0, vars/2))
		}
		for _, x := range []impl.Instance{{Vars: vars}, {Vars: vars, Clauses: []impl.Clause{}}, full} {
			call := fmt.Sprint(" of ", x)
			wantList(t, "SolutionsOf"+call, all, impl.ErrNone)(impl.SolutionsOf(x))
			wantCount(t, "CountSolutions"+call, 1<<vars, impl.ErrNone)(impl.CountSolutions(x))
			wantCount(t, "LeastSolution"+call, 0, impl.ErrNone)(impl.LeastSolution(x))
			wantCount(t, "MeetOfSolutions"+call, 0, impl.ErrNone)(impl.MeetOfSolutions(x))
			wantList(t, "ForcedOf"+call, allEqual(vars, 2), impl.ErrNone)(impl.ForcedOf(x))
			wantList(t, "EasyClasses"+call, []int64{0, 1, 2, 3, 4, 5}, impl.ErrNone)(impl.EasyClasses(x))
			wantList(t, "NarrowDomains"+call, allEqual(vars, 2), impl.ErrNone)(impl.NarrowDomains(x, allEqual(vars, 2)))
		}
	}
}

// TestEachAssignmentCanBeTheOnlySolution also has each one as the only assignment that is none.
func TestEachAssignmentCanBeTheOnlySolution(t *testing.T) {
	for assignment := range int64(256) {
		low, high := assignment%16, assignment/16
		x := instanceOf(8, on(impl.Relation{Places: 4, Tuples: 1 << low}, 0, 1, 2, 3), on(impl.Relation{Places: 4, Tuples: 1 << high}, 4, 5, 6, 7))
		call := fmt.Sprint(" of ", x)
		wantList(t, "SolutionsOf"+call, []int64{assignment}, impl.ErrNone)(impl.SolutionsOf(x))
		wantCount(t, "LeastSolution"+call, assignment, impl.ErrNone)(impl.LeastSolution(x))
		wantCount(t, "MeetOfSolutions"+call, assignment, impl.ErrNone)(impl.MeetOfSolutions(x))
		wantList(t, "ForcedOf"+call, allArguments(8)[assignment], impl.ErrNone)(impl.ForcedOf(x))
		wantList(t, "SatisfiedBy"+call, []int64{1, 1}, impl.ErrNone)(impl.SatisfiedBy(x, assignment))
		wantList(t, "SatisfiedBy"+call, []int64{0, 1}, impl.ErrNone)(impl.SatisfiedBy(x, assignment^4))
		wantList(t, "SatisfiedBy"+call, []int64{1, 0}, impl.ErrNone)(impl.SatisfiedBy(x, assignment^128))
	}
}

func TestEasyRowAgainstTheDefinition(t *testing.T) {
	m := newEasyModel(t)
	for _, r := range slices.Concat(smallAndSomeWide(), m.pool(-1), m.pool(2), m.pool(3), m.pool(4), m.pool(5)) {
		wantList(t, fmt.Sprint("EasyRow of ", r), m.row(r), impl.ErrNone)(impl.EasyRow(r))
	}
	for _, r := range brokenRelations() {
		wantList(t, fmt.Sprint("EasyRow of ", r), nil, impl.ErrInvalid)(impl.EasyRow(r))
	}
}

func TestEasyRow(t *testing.T) {
	cases := []struct {
		r    impl.Relation
		want []int64
	}{
		{differs, []int64{0, 0, 0, 0, 1, 1}},
		{atMost, []int64{1, 1, 1, 1, 1, 0}},
		{orElse, []int64{0, 1, 0, 1, 1, 0}},
		{notBoth, []int64{1, 0, 1, 0, 1, 0}},
		{someOne, []int64{0, 1, 0, 1, 0, 0}},
		{justOne, []int64{0, 0, 0, 0, 0, 0}},
		{evenSum, []int64{1, 0, 0, 0, 0, 1}},
		{isZero, []int64{1, 0, 1, 1, 1, 1}},
		{isOne, []int64{0, 1, 1, 1, 1, 1}},
		{never, []int64{0, 0, 1, 1, 1, 1}},
		{impl.Relation{Places: 4}, []int64{0, 0, 1, 1, 1, 1}},
		{always, []int64{1, 1, 1, 1, 1, 1}},
		{impl.Relation{Places: 1, Tuples: 3}, []int64{1, 1, 1, 1, 1, 1}},
		{impl.Relation{Places: 3, Tuples: 1 << 7}, []int64{0, 1, 1, 1, 1, 1}},
		{impl.Relation{Places: 3, Tuples: 127}, []int64{1, 0, 1, 0, 0, 0}},
		{impl.Relation{Places: 4, Tuples: 1<<15 | 1}, []int64{1, 1, 1, 1, 1, 1}},
	}
	for _, c := range cases {
		wantList(t, fmt.Sprint("EasyRow of ", c.r), c.want, impl.ErrNone)(impl.EasyRow(c.r))
	}
}

// TestNumbersOfEasyRelations counts the relations in each class. Those of the classes 2 and 3 are the families of
// sets that are closed under meets, those of the class 5 the affine spaces and the empty set.
func TestNumbersOfEasyRelations(t *testing.T) {
	want := [][]int64{{2, 2, 4, 4, 4, 4}, {8, 8, 14, 14, 16, 12}, {128, 128, 122, 122, 166, 52}, {32768, 32768, 4960, 4960, 4170, 308}}
	for i, numbers := range want {
		got := make([]int64, 6)
		for _, r := range relationsOf(int64(i+1), 1) {
			row, _ := impl.EasyRow(r)
			for k, v := range row {
				got[k] += v
			}
		}
		if !slices.Equal(got, numbers) {
			t.Errorf("of %d places: %v relations in the classes, want %v", i+1, got, numbers)
		}
	}
}

func TestEasyClassesAgainstTheDefinition(t *testing.T) {
	m := newEasyModel(t)
	met := make([]int, 6)
	for _, x := range someInstances(t) {
		want := m.classesOf(x)
		wantList(t, fmt.Sprint("EasyClasses of ", x), want, impl.ErrNone)(impl.EasyClasses(x))
		for _, k := range want {
			if len(want) == 1 || len(x.Clauses) > 1 {
				met[k]++
			}
		}
	}
	if slices.Min(met) < 150 {
		t.Errorf("only so many instances are in the classes: %v", met)
	}
}

func TestEasyClasses(t *testing.T) {
	cases := []struct {
		x    impl.Instance
		want []int64
	}{
		{instanceOf(0), []int64{0, 1, 2, 3, 4, 5}},
		{instanceOf(2, on(differs, 0, 1)), []int64{4, 5}},
		{instanceOf(2, on(differs, 0, 0)), []int64{4, 5}},
		{instanceOf(3, on(differs, 0, 1), on(atMost, 1, 2)), []int64{4}},
		{instanceOf(3, on(atMost, 0, 1), on(notBoth, 1, 2)), []int64{0, 2, 4}},
		{instanceOf(3, on(notBoth, 0, 1), on(orElse, 1, 2)), []int64{4}},
		{instanceOf(3, on(someOne, 0, 1, 2), on(orElse, 1, 2)), []int64{1, 3}},
		{instanceOf(3, on(evenSum, 0, 1, 2), on(isZero, 2)), []int64{0, 5}},
		{instanceOf(3, on(evenSum, 0, 1, 2), on(isOne, 2)), []int64{5}},
		{instanceOf(3, on(always, 0, 1, 2, 0), on(justOne, 0, 1, 2)), nil},
		{instanceOf(3, on(justOne, 0, 1, 2), on(always, 0, 1, 2, 0)), nil},
		{instanceOf(3, on(isOne, 0), on(isZero, 0)), []int64{2, 3, 4, 5}},
		{instanceOf(3, on(never, 0)), []int64{2, 3, 4, 5}},
		{chain(8), []int64{0, 1, 2, 3, 4}},
		{ofManyClauses(12, 1, on(always, 0, 0, 0, 0)), []int64{0, 1, 2, 3, 4, 5}},
	}
	for _, c := range cases {
		wantList(t, fmt.Sprint("EasyClasses of ", c.x), c.want, impl.ErrNone)(impl.EasyClasses(c.x))
	}
}

// hasMade reports whether a list of solutions, as numbers, has what is made of any three of them.
func hasMade(solutions []int64, made func(a, b, c int64) int64) bool {
	in := map[int64]bool{}
	for _, a := range solutions {
		in[a] = true
	}
	for _, a := range solutions {
		for _, b := range solutions {
			for _, c := range solutions {
				if !in[made(a, b, c)] {
					return false
				}
			}
		}
	}
	return true
}

// easyInstances draws instances of relations in a class.
func easyInstances(t *testing.T, k int) []impl.Instance {
	t.Helper()
	return append(drawInstances(uint64(16+k), 400, newEasyModel(t).pool(k)), impl.Instance{}, impl.Instance{Vars: 4})
}

// TestEasyInstancesHaveTheirSolutions is what the classes are for: solutions of zeros and of ones, meets, joins,
// majorities and minorities of solutions, and a power of 2 of them.
func TestEasyInstancesHaveTheirSolutions(t *testing.T) {
	made := [6]func(a, b, c int64) int64{
		2: func(a, b, c int64) int64 { return a & b },
		3: func(a, b, c int64) int64 { return a | b },
		4: func(a, b, c int64) int64 { return a&b | a&c | b&c },
		5: func(a, b, c int64) int64 { return a ^ b ^ c },
	}
	for k := range 6 {
		several := 0
		for _, x := range easyInstances(t, k) {
			solutions, code := impl.SolutionsOf(x)
			if classes, _ := impl.EasyClasses(x); !slices.Contains(classes, int64(k)) || code != impl.ErrNone {
				t.Fatalf("%v is in the classes %v, not in %d, or has the code %d", x, classes, k, code)
			}
			n := len(solutions)
			if k == 0 && !slices.Contains(solutions, 0) || k == 1 && !slices.Contains(solutions, 1<<x.Vars-1) {
				t.Errorf("%v of the class %d has the solutions %v", x, k, solutions)
			}
			if k >= 2 && n <= 40 && !hasMade(solutions, made[k]) {
				t.Errorf("%v of the class %d has the solutions %v, of which others are made", x, k, solutions)
			}
			if k == 5 && n&(n-1) != 0 {
				t.Errorf("%v of the class 5 has %d solutions: %v", x, n, solutions)
			}
			if n >= 3 && n <= 40 {
				several++
			}
		}
		if several < 70 {
			t.Errorf("only %d instances of the class %d have 3 to 40 solutions", several, k)
		}
	}
}

func TestMeetsOfTheClassOfAndAreSolutions(t *testing.T) {
	found := 0
	for _, x := range easyInstances(t, 2) {
		solutions, _ := impl.SolutionsOf(x)
		meet, code := impl.MeetOfSolutions(x)
		if len(solutions) == 0 {
			wantCount(t, fmt.Sprint("MeetOfSolutions of ", x), 0, impl.ErrNotFound)(meet, code)
			continue
		}
		found++
		if !slices.Contains(solutions, meet) || code != impl.ErrNone {
			t.Errorf("MeetOfSolutions of %v = %d, %d, but the solutions are %v", x, meet, code, solutions)
		}
		wantCount(t, fmt.Sprint("LeastSolution of ", x), meet, impl.ErrNone)(impl.LeastSolution(x))
	}
	if found < 150 {
		t.Errorf("only %d instances have solutions", found)
	}
}

func TestNarrowDomainsAgainstTheDefinition(t *testing.T) {
	r := rand.New(rand.NewPCG(9, 9))
	codes := map[int64]int{}
	narrower := 0
	for _, x := range someInstances(t) {
		for _, domains := range someDomains(r, x.Vars) {
			want, wantCode := modelNarrowed(x, domains)
			wantList(t, fmt.Sprintf("NarrowDomains(%v, %v)", x, domains), want, wantCode)(impl.NarrowDomains(x, domains))
			codes[wantCode]++
			if wantCode == impl.ErrNone && !slices.Equal(want, domains) {
				narrower++
			}
		}
	}
	if codes[impl.ErrNone] < 3000 || codes[impl.ErrNotFound] < 3000 || narrower < 1500 {
		t.Errorf("codes: %v, %d of the domains became less", codes, narrower)
	}
}

func TestNarrowedDomainsAreTheGreatestStableOnes(t *testing.T) {
	m := newEasyModel(t)
	list := slices.Concat(oneClauseInstances(2, upToPlaces(2)), oneClauseInstances(3, relationsOf(3, 23)), drawInstances(21, 400, m.pool(-1)), drawInstances(22, 400, m.pool(4)))
	looked := 0
	for _, x := range list {
		if x.Vars > 3 {
			continue
		}
		for _, domains := range domainLists(x.Vars) {
			want, wantCode := joinOfStable(x, domains)
			wantList(t, fmt.Sprintf("NarrowDomains(%v, %v)", x, domains), want, wantCode)(impl.NarrowDomains(x, domains))
			looked++
		}
	}
	if looked < 8000 {
		t.Errorf("only %d domains were looked at", looked)
	}
}

func TestNarrowDomains(t *testing.T) {
	triangle := instanceOf(3, on(differs, 0, 1), on(differs, 1, 2), on(differs, 2, 0))
	cases := []struct {
		x             impl.Instance
		domains, want []int64
	}{
		{instanceOf(0), nil, nil},
		{instanceOf(0), []int64{}, nil},
		{instanceOf(2), []int64{0, 2}, []int64{0, 2}},
		{instanceOf(2), []int64{1, 1}, []int64{1, 1}},
		{instanceOf(2, on(orElse, 0, 1)), []int64{2, 2}, []int64{2, 2}},
		{instanceOf(2, on(orElse, 0, 1)), []int64{0, 2}, []int64{0, 1}},
		{instanceOf(2, on(orElse, 0, 1)), []int64{2, 0}, []int64{1, 0}},
		{instanceOf(2, on(orElse, 0, 1)), []int64{1, 2}, []int64{1, 2}},
		{instanceOf(2, on(orElse, 0, 1)), []int64{0, 0}, nil},
		{instanceOf(2, on(atMost, 0, 1)), []int64{2, 0}, []int64{0, 0}},
		{instanceOf(2, on(atMost, 1, 0)), []int64{2, 0}, []int64{2, 0}},
		{instanceOf(2, on(atMost, 0, 1)), []int64{1, 0}, nil},
		{instanceOf(1, on(orElse, 0, 0)), []int64{2}, []int64{1}},
		{instanceOf(1, on(orElse, 0, 0)), []int64{0}, nil},
		{instanceOf(1, on(differs, 0, 0)), []int64{2}, nil},
		{instanceOf(2, on(differs, 1, 1)), []int64{2, 2}, nil},
		{instanceOf(1, on(never, 0)), []int64{2}, nil},
		{instanceOf(8, on(never, 7)), allEqual(8, 0), nil},
		{instanceOf(2, on(isOne, 1)), []int64{2, 2}, []int64{2, 1}},
		{instanceOf(2, on(isOne, 1), on(isZero, 1)), []int64{2, 2}, nil},
		{instanceOf(3, on(justOne, 0, 1, 2)), []int64{2, 2, 2}, []int64{2, 2, 2}},
		{instanceOf(3, on(justOne, 0, 1, 2)), []int64{2, 1, 2}, []int64{0, 1, 0}},
		{instanceOf(3, on(justOne, 0, 1, 2)), []int64{0, 2, 0}, []int64{0, 1, 0}},
		{instanceOf(3, on(justOne, 0, 1, 2)), []int64{1, 2, 1}, nil},
		{instanceOf(3, on(justOne, 0, 0, 2)), []int64{2, 2, 2}, []int64{0, 2, 1}},
		{instanceOf(3, on(justOne, 2, 0, 2)), []int64{2, 2, 2}, []int64{1, 2, 0}},
		{instanceOf(3, on(justOne, 2, 1, 1)), []int64{2, 2, 2}, []int64{2, 0, 1}},
		{instanceOf(3, on(justOne, 0, 0, 2)), []int64{1, 2, 2}, nil},
		{instanceOf(3, on(evenSum, 0, 1, 2)), []int64{2, 1, 2}, []int64{2, 1, 2}},
		{instanceOf(3, on(evenSum, 0, 1, 2)), []int64{0, 1, 2}, []int64{0, 1, 1}},
		{triangle, []int64{2, 2, 2}, []int64{2, 2, 2}},
		{triangle, []int64{2, 0, 2}, nil},
		{chain(8), allEqual(8, 2), allEqual(8, 2)},
		{chain(8), []int64{1, 2, 2, 2, 2, 2, 2, 2}, allEqual(8, 1)},
		{chain(8), []int64{2, 2, 2, 2, 2, 2, 2, 0}, allEqual(8, 0)},
		{chain(8), []int64{2, 2, 0, 2, 2, 1, 2, 2}, []int64{0, 0, 0, 2, 2, 1, 1, 1}},
		{chain(8), []int64{1, 2, 2, 2, 2, 2, 2, 0}, nil},
		{chain(8), []int64{2, 2, 2, 1, 0, 2, 2, 2}, nil},
	}
	for _, c := range cases {
		wantCode := int64(impl.ErrNone)
		if c.want == nil && c.x.Vars > 0 {
			wantCode = impl.ErrNotFound
		}
		wantList(t, fmt.Sprintf("NarrowDomains(%v, %v)", c.x, c.domains), c.want, wantCode)(impl.NarrowDomains(c.x, c.domains))
	}
}

func TestNarrowedDomainsHaveAllSolutions(t *testing.T) {
	r := rand.New(rand.NewPCG(9, 10))
	within := 0
	for _, x := range someInstances(t) {
		solutions, _ := impl.SolutionsOf(x)
		assignments := allArguments(x.Vars)
		for _, domains := range someDomains(r, x.Vars) {
			narrowed, code := impl.NarrowDomains(x, domains)
			for _, solution := range solutions {
				values := assignments[solution]
				if !areWithin(values, domains) {
					continue
				}
				within++
				if code != impl.ErrNone || !areWithin(values, narrowed) {
					t.Errorf("NarrowDomains(%v, %v) = %v, %d, without the solution %d", x, domains, narrowed, code, solution)
				}
			}
			if code == impl.ErrNone {
				wantList(t, fmt.Sprintf("NarrowDomains(%v, %v), narrowed", x, narrowed), narrowed, impl.ErrNone)(impl.NarrowDomains(x, narrowed))
			}
		}
	}
	if within < 10000 {
		t.Errorf("only %d solutions were within domains", within)
	}
}

func TestNarrowedDomainsDoNotGoByTheOrderOfClauses(t *testing.T) {
	r := rand.New(rand.NewPCG(9, 11))
	for _, x := range every(someInstances(t), 2) {
		other := cloned(x)
		slices.Reverse(other.Clauses)
		for _, domains := range someDomains(r, x.Vars) {
			want, wantCode := impl.NarrowDomains(x, domains)
			wantList(t, fmt.Sprintf("NarrowDomains(%v, %v)", other, domains), want, wantCode)(impl.NarrowDomains(other, domains))
		}
	}
}

// flippedModel has in each relation the tuples of whose other values there is a tuple.
func flippedModel(x impl.Instance) impl.Instance {
	other := cloned(x)
	for k, c := range other.Clauses {
		other.Clauses[k].Relation = modelRelation(c.Relation.Places, func(tuple []int64) bool {
			return modelHas(c.Relation, othersOf(tuple))
		})
	}
	return other
}

func TestFlippedInstancesHaveTheOtherAssignments(t *testing.T) {
	for _, x := range someInstances(t) {
		flipped, code := impl.FlipInstance(x)
		call := fmt.Sprint("FlipInstance of ", x)
		wantInstance(t, call, flippedModel(x), impl.ErrNone)(flipped, code)
		wantInstance(t, call+", flipped again", x, impl.ErrNone)(impl.FlipInstance(flipped))
		var others []int64
		for _, values := range modelSolutions(x) {
			others = append([]int64{rowOf(othersOf(values))}, others...)
		}
		wantList(t, "SolutionsOf "+call, others, impl.ErrNone)(impl.SolutionsOf(flipped))
	}
}

// TestFlippedInstancesExchangeClasses has zeros for ones, and or for and.
func TestFlippedInstancesExchangeClasses(t *testing.T) {
	other := []int64{1, 0, 3, 2, 4, 5}
	for _, x := range someInstances(t) {
		var want []int64
		classes, _ := impl.EasyClasses(x)
		for _, k := range classes {
			want = append(want, other[k])
		}
		slices.Sort(want)
		flipped, _ := impl.FlipInstance(x)
		wantList(t, fmt.Sprint("EasyClasses of ", x, ", flipped"), want, impl.ErrNone)(impl.EasyClasses(flipped))
	}
}

func TestFlipInstance(t *testing.T) {
	cases := []struct{ x, want impl.Instance }{
		{instanceOf(0), instanceOf(0)},
		{instanceOf(8), instanceOf(8)},
		{instanceOf(1, on(isOne, 0)), instanceOf(1, on(isZero, 0))},
		{instanceOf(2, on(atMost, 0, 1)), instanceOf(2, on(impl.Relation{Places: 2, Tuples: 11}, 0, 1))},
		{instanceOf(2, on(orElse, 1, 1), on(never, 1)), instanceOf(2, on(notBoth, 1, 1), on(never, 1))},
		{instanceOf(2, on(differs, 1, 0)), instanceOf(2, on(differs, 1, 0))},
		{instanceOf(3, on(justOne, 0, 1, 2)), instanceOf(3, on(impl.Relation{Places: 3, Tuples: 104}, 0, 1, 2))},
		{instanceOf(3, on(always, 0, 1, 2, 2)), instanceOf(3, on(always, 0, 1, 2, 2))},
		{instanceOf(4, on(impl.Relation{Places: 4, Tuples: 1<<14 | 1}, 3, 2, 1, 0)), instanceOf(4, on(impl.Relation{Places: 4, Tuples: 1<<15 | 2}, 3, 2, 1, 0))},
	}
	for _, c := range cases {
		wantInstance(t, fmt.Sprint("FlipInstance of ", c.x), c.want, impl.ErrNone)(impl.FlipInstance(c.x))
	}
}

func TestFixedVariablesPartTheSolutions(t *testing.T) {
	parted := 0
	for _, x := range someInstances(t) {
		for v := range x.Vars {
			var parts [2][]int64
			for _, values := range modelSolutions(x) {
				parts[values[v]] = append(parts[values[v]], rowOf(values))
			}
			for value := range int64(2) {
				call := fmt.Sprintf("FixVar(%v, %d, %d)", x, v, value)
				got, code := impl.FixVar(x, v, value)
				if len(x.Clauses) == impl.MaxClauses {
					wantInstance(t, call, impl.Instance{}, impl.ErrLimit)(got, code)
					continue
				}
				want := cloned(x)
				want.Clauses = append(want.Clauses, on([]impl.Relation{isZero, isOne}[value], v))
				wantInstance(t, call, want, impl.ErrNone)(got, code)
				wantList(t, "SolutionsOf "+call, parts[value], impl.ErrNone)(impl.SolutionsOf(got))
			}
			if len(parts[0]) > 0 && len(parts[1]) > 0 {
				parted++
			}
		}
	}
	if parted < 1500 {
		t.Errorf("only %d variables have both values in solutions", parted)
	}
}

func TestFixVar(t *testing.T) {
	cases := []struct {
		x        impl.Instance
		v, value int64
		want     impl.Instance
		wantCode int64
	}{
		{instanceOf(1), 0, 0, instanceOf(1, on(isZero, 0)), impl.ErrNone},
		{instanceOf(1), 0, 1, instanceOf(1, on(isOne, 0)), impl.ErrNone},
		{instanceOf(8), 7, 1, instanceOf(8, on(isOne, 7)), impl.ErrNone},
		{instanceOf(2, on(isOne, 1)), 1, 0, instanceOf(2, on(isOne, 1), on(isZero, 1)), impl.ErrNone},
		{ofManyClauses(11, 3, on(isOne, 2)), 2, 1, ofManyClauses(12, 3, on(isOne, 2)), impl.ErrNone},
		{ofManyClauses(12, 3, on(isOne, 2)), 2, 1, impl.Instance{}, impl.ErrLimit},
		{ofManyClauses(12, 3, on(isOne, 2)), 3, 1, impl.Instance{}, impl.ErrRange},
		{ofManyClauses(12, 3, on(isOne, 2)), 2, 2, impl.Instance{}, impl.ErrRange},
		{ofManyClauses(12, 3, on(isOne, 2)), -1, -1, impl.Instance{}, impl.ErrRange},
		{instanceOf(0), 0, 0, impl.Instance{}, impl.ErrRange},
		{instanceOf(3), 3, 0, impl.Instance{}, impl.ErrRange},
		{instanceOf(3), -1, 0, impl.Instance{}, impl.ErrRange},
		{instanceOf(3), 0, -1, impl.Instance{}, impl.ErrRange},
		{instanceOf(3), 0, 2, impl.Instance{}, impl.ErrRange},
	}
	for _, c := range cases {
		wantInstance(t, fmt.Sprintf("FixVar(%v, %d, %d)", c.x, c.v, c.value), c.want, c.wantCode)(impl.FixVar(c.x, c.v, c.value))
	}
}

func TestFixVarErrors(t *testing.T) {
	numbers := append(extremes, 6, 7, 8, 9)
	for vars := range int64(impl.MaxVars + 1) {
		for _, clauses := range []int{0, 1, 11, 12} {
			if vars == 0 && clauses > 0 {
				continue
			}
			x := ofManyClauses(clauses, vars, on(orElse, 0, 0))
			for _, v := range numbers {
				for _, value := range numbers {
					want := int64(impl.ErrNone)
					if v < 0 || v >= vars || value < 0 || value > 1 {
						want = impl.ErrRange
					} else if clauses == 12 {
						want = impl.ErrLimit
					}
					got, code := impl.FixVar(x, v, value)
					if code != want || want != impl.ErrNone && (got.Vars != 0 || len(got.Clauses) != 0) {
						t.Errorf("FixVar(%v, %d, %d) = %v, %d, want the code %d", x, v, value, got, code, want)
					}
				}
			}
		}
	}
}

func TestSatisfiedByAgainstTheDefinition(t *testing.T) {
	for _, x := range someInstances(t) {
		solutions, _ := impl.SolutionsOf(x)
		for assignment, values := range allArguments(x.Vars) {
			var want []int64
			for _, c := range x.Clauses {
				v := int64(0)
				if modelSatisfies(values, c) {
					v = 1
				}
				want = append(want, v)
			}
			wantList(t, fmt.Sprintf("SatisfiedBy(%v, %d)", x, assignment), want, impl.ErrNone)(impl.SatisfiedBy(x, int64(assignment)))
			if slices.Contains(solutions, int64(assignment)) == slices.Contains(want, 0) {
				t.Errorf("SatisfiedBy(%v, %d) = %v, but the solutions are %v", x, assignment, want, solutions)
			}
		}
	}
}

func TestSatisfiedBy(t *testing.T) {
	cases := []struct {
		x          impl.Instance
		assignment int64
		want       []int64
	}{
		{instanceOf(0), 0, nil},
		{instanceOf(8), 255, nil},
		{chain(3), 1, []int64{1, 0}},
		{chain(3), 2, []int64{0, 1}},
		{chain(3), 3, []int64{0, 1}},
		{chain(3), 7, []int64{1, 1}},
		{instanceOf(1, on(differs, 0, 0), on(orElse, 0, 0), on(notBoth, 0, 0)), 0, []int64{0, 0, 1}},
		{instanceOf(1, on(differs, 0, 0), on(orElse, 0, 0), on(notBoth, 0, 0)), 1, []int64{0, 1, 0}},
		{instanceOf(2, on(impl.Relation{Places: 2, Tuples: 2}, 0, 1), on(impl.Relation{Places: 2, Tuples: 2}, 1, 0)), 1, []int64{1, 0}},
		{instanceOf(4, on(impl.Relation{Places: 4, Tuples: 1 << 6}, 3, 2, 1, 0), on(impl.Relation{Places: 4, Tuples: 1 << 6}, 0, 1, 2, 3)), 6, []int64{1, 1}},
		{instanceOf(4, on(impl.Relation{Places: 4, Tuples: 1 << 4}, 3, 2, 1, 0), on(impl.Relation{Places: 4, Tuples: 1 << 4}, 0, 1, 2, 3)), 2, []int64{1, 0}},
		{ofManyClauses(12, 8, on(isOne, 7)), 128, allEqual(12, 1)},
		{ofManyClauses(12, 8, on(isOne, 7)), 127, allEqual(12, 0)},
	}
	for _, c := range cases {
		wantList(t, fmt.Sprintf("SatisfiedBy(%v, %d)", c.x, c.assignment), c.want, impl.ErrNone)(impl.SatisfiedBy(c.x, c.assignment))
	}
}

func TestSatisfiedByErrors(t *testing.T) {
	for vars := range int64(impl.MaxVars + 1) {
		x := impl.Instance{Vars: vars}
		if vars > 0 {
			x = instanceOf(vars, on(impl.Relation{Places: 1, Tuples: 3}, vars-1))
		}
		for _, assignment := range append(extremes, 1<<vars-2, 1<<vars-1, 1<<vars, 1<<vars+1, 255, 256, 1<<vars|1<<32) {
			if assignment >= 0 && assignment < 1<<vars {
				wantList(t, fmt.Sprintf("SatisfiedBy(%v, %d)", x, assignment), allEqual(int64(len(x.Clauses)), 1), impl.ErrNone)(impl.SatisfiedBy(x, assignment))
			} else {
				wantList(t, fmt.Sprintf("SatisfiedBy(%v, %d)", x, assignment), nil, impl.ErrRange)(impl.SatisfiedBy(x, assignment))
			}
		}
	}
}

// badDomains has lists that are no domains of so many variables.
func badDomains(vars int64) [][]int64 {
	lists := [][]int64{allEqual(vars+1, 2), allEqual(vars+2, 0), make([]int64, 1<<16)}
	if vars > 0 {
		lists = append(lists, nil, []int64{}, allEqual(vars-1, 2), allEqual(vars-1, 0))
	}
	for v := range vars {
		for _, number := range append(extremes, -2) {
			if number < 0 || number > 2 {
				list := allEqual(vars, v%3)
				list[v] = number
				lists = append(lists, list)
			}
		}
	}
	return lists
}

func TestNarrowDomainsErrors(t *testing.T) {
	for vars := range int64(impl.MaxVars + 1) {
		list := []impl.Instance{{Vars: vars}}
		if vars > 0 {
			list = append(list, chain(vars), instanceOf(vars, on(never, 0)))
		}
		for _, x := range list {
			for _, domains := range badDomains(vars) {
				wantList(t, fmt.Sprintf("NarrowDomains(%v, %.100s)", x, fmt.Sprint(domains)), nil, impl.ErrRange)(impl.NarrowDomains(x, domains))
			}
		}
	}
}

// TestInvalidComesFirstOfInstances has instances that are none beside good and bad arguments of all kinds.
func TestInvalidComesFirstOfInstances(t *testing.T) {
	for _, x := range brokenInstances() {
		call := fmt.Sprintf(" of %d, %d Clauses, %.200s", x.Vars, len(x.Clauses), fmt.Sprint(x.Clauses[:min(len(x.Clauses), 2)]))
		wantList(t, "SolutionsOf"+call, nil, impl.ErrInvalid)(impl.SolutionsOf(x))
		wantCount(t, "CountSolutions"+call, 0, impl.ErrInvalid)(impl.CountSolutions(x))
		wantList(t, "EasyClasses"+call, nil, impl.ErrInvalid)(impl.EasyClasses(x))
		wantCount(t, "LeastSolution"+call, 0, impl.ErrInvalid)(impl.LeastSolution(x))
		wantCount(t, "MeetOfSolutions"+call, 0, impl.ErrInvalid)(impl.MeetOfSolutions(x))
		wantList(t, "ForcedOf"+call, nil, impl.ErrInvalid)(impl.ForcedOf(x))
		wantInstance(t, "FlipInstance"+call, impl.Instance{}, impl.ErrInvalid)(impl.FlipInstance(x))
		for _, domains := range [][]int64{nil, {0}, {2, 2, 2}, {3}, {-1, 0, math.MaxInt64}, allEqual(8, 2), allEqual(9, 2)} {
			wantList(t, "NarrowDomains"+call, nil, impl.ErrInvalid)(impl.NarrowDomains(x, domains))
		}
		for _, number := range append(extremes, 7, 8, 255, 256) {
			wantList(t, "SatisfiedBy"+call, nil, impl.ErrInvalid)(impl.SatisfiedBy(x, number))
			wantInstance(t, "FixVar"+call, impl.Instance{}, impl.ErrInvalid)(impl.FixVar(x, number, 0))
			wantInstance(t, "FixVar"+call, impl.Instance{}, impl.ErrInvalid)(impl.FixVar(x, 0, number))
			wantInstance(t, "FixVar"+call, impl.Instance{}, impl.ErrInvalid)(impl.FixVar(x, number, number))
		}
	}
}

// tellConstraints returns all that the functions of the chapter tell of an instance.
func tellConstraints(x impl.Instance, domains []int64) string {
	solutions, a := impl.SolutionsOf(x)
	count, b := impl.CountSolutions(x)
	classes, c := impl.EasyClasses(x)
	least, d := impl.LeastSolution(x)
	meet, e := impl.MeetOfSolutions(x)
	forced, f := impl.ForcedOf(x)
	narrowed, g := impl.NarrowDomains(x, domains)
	flipped, h := impl.FlipInstance(x)
	withValue, i := impl.FixVar(x, x.Vars-1, 1)
	satisfied, j := impl.SatisfiedBy(x, 0)
	text := fmt.Sprint(impl.IsInstance(x), solutions, a, count, b, classes, c, least, d, meet, e, forced, f, narrowed, g, flipped, h, withValue, i, satisfied, j)
	for _, clause := range x.Clauses {
		row, code := impl.EasyRow(clause.Relation)
		text += fmt.Sprint(row, code)
	}
	return text
}

// TestInstancesStayAsTheyAre has Clauses, variables and domains with more behind them.
func TestInstancesStayAsTheyAre(t *testing.T) {
	vars := []int64{5, 0, 5, 2, 7, 1, 1, 6, 3, 4}
	whole := instanceOf(8, on(orElse, vars[:2]...), on(someOne, vars[2:5]...), on(atMost, vars[1:3]...), on(impl.Relation{Places: 4, Tuples: 54321}, vars[4:8]...), on(differs, vars[8:]...))
	domains := []int64{2, 0, 2, 2, 1, 2, 2, 2, 0, 1}
	keptVars, keptWhole, keptDomains := slices.Clone(vars), cloned(whole), slices.Clone(domains)
	for clauses := range len(whole.Clauses) + 1 {
		for length := range len(domains) + 1 {
			tellConstraints(impl.Instance{Vars: 8, Clauses: whole.Clauses[:clauses]}, domains[:length])
			if !slices.Equal(vars, keptVars) || !sameInstance(whole, keptWhole) || !slices.Equal(domains, keptDomains) {
				t.Fatalf("the arguments became %v, %v, %v", vars, whole, domains)
			}
		}
	}
}

// spoilInstance writes over the variables of one Clause after the other, and over all Clauses at the end; the other
// Clauses should stay as they are.
func spoilInstance(t *testing.T, call string, x impl.Instance) {
	t.Helper()
	kept := cloned(x)
	for k := range x.Clauses {
		spoil(x.Clauses[k].Vars)
		rest := impl.Instance{Vars: x.Vars, Clauses: x.Clauses[k+1:]}
		if !sameInstance(rest, impl.Instance{Vars: kept.Vars, Clauses: kept.Clauses[k+1:]}) {
			t.Errorf("%s: the Clauses %v share memory with the Clause before them", call, rest)
		}
	}
	clear(x.Clauses[:cap(x.Clauses)])
}

func TestResultsOfConstraintsAreNewMemory(t *testing.T) {
	one, four := []int64{3}, []int64{0, 1, 2, 3}
	shared := instanceOf(4, on(isOne, one...), on(always, four...), on(isOne, one...), on(orElse, four[:2]...), on(atMost, four[1:3]...), on(always, four...))
	for _, x := range append(every(someInstances(t), 5), shared) {
		kept, domains := cloned(x), allEqual(x.Vars, 2)
		want := tellConstraints(x, domains)
		flipped, _ := impl.FlipInstance(x)
		spoilInstance(t, fmt.Sprint("FlipInstance of ", kept), flipped)
		withValue, _ := impl.FixVar(x, 0, 1)
		spoilInstance(t, fmt.Sprint("FixVar of ", kept), withValue)
		for _, call := range []func() ([]int64, int64){
			func() ([]int64, int64) { return impl.SolutionsOf(x) },
			func() ([]int64, int64) { return impl.EasyClasses(x) },
			func() ([]int64, int64) { return impl.ForcedOf(x) },
			func() ([]int64, int64) { return impl.NarrowDomains(x, domains) },
			func() ([]int64, int64) { return impl.SatisfiedBy(x, 0) },
			func() ([]int64, int64) { return impl.EasyRow(always) },
		} {
			list, _ := call()
			spoil(list)
		}
		if !sameInstance(x, kept) || !slices.Equal(domains, allEqual(x.Vars, 2)) {
			t.Fatalf("%v became %v, the domains %v", kept, x, domains)
		}
		if got := tellConstraints(x, domains); got != want {
			t.Errorf("%v after a change of the last results: %s, want %s", x, got, want)
		}
	}
}

// TestConstraintsAtOnce has calls that go on at the same time, and each of them more than once.
func TestConstraintsAtOnce(t *testing.T) {
	var calls sync.WaitGroup
	for _, x := range every(someInstances(t), 9) {
		domains := allEqual(x.Vars, 2)
		want := tellConstraints(x, domains)
		for range 4 {
			calls.Go(func() {
				if got := tellConstraints(x, domains); got != want {
					t.Errorf("of %v: %s, and at another time %s", x, got, want)
				}
			})
		}
	}
	calls.Wait()
}

func TestSolutionsLeaveNothingBehind(t *testing.T) {
	before := runtime.NumGoroutine()
	for range 200 {
		impl.SolutionsOf(chain(8))
		impl.ForcedOf(ofManyClauses(12, 8, on(never, 0)))
	}
	wantNoMoreGoroutines(t, before)
}
