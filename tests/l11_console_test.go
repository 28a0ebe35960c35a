package tests

import (
	"fmt"
	"maps"
	"math/rand/v2"
	"regexp"
	"slices"
	"strconv"
	"strings"
	"sync"
	"testing"

	"loop.example/g01323/impl"
)

// tableLine is a line of the document's table. In its form # stands for a number and * for a word. It changes the
// parts F, L and R that are named alone.
type tableLine struct {
	form    string
	changes string
	run     func(d *impl.Desk, words []string) (string, bool)
}

// The model takes the results of the earlier chapters from the program: these have tests of their own.
var tableLines = []tableLine{
	{"func *", "F", func(d *impl.Desk, w []string) (string, bool) { return putFunc(d)(impl.ParseFunc(w[0])) }},
	{"name *", "F", func(d *impl.Desk, w []string) (string, bool) { return putFunc(d)(impl.NamedFunc(w[0])) }},
	{"formula # *", "F", func(d *impl.Desk, w []string) (string, bool) {
		return putFunc(d)(impl.FuncOfFormula(number(w[0]), w[1]))
	}},
	{"dual", "F", func(d *impl.Desk, w []string) (string, bool) { return putFunc(d)(impl.DualOf(d.Func)) }},
	{"negate", "F", func(d *impl.Desk, w []string) (string, bool) { return putFunc(d)(impl.NegateFunc(d.Func)) }},
	{"core", "F", func(d *impl.Desk, w []string) (string, bool) { return putFunc(d)(impl.CoreOf(d.Func)) }},
	{"find #", "F", func(d *impl.Desk, w []string) (string, bool) {
		return putFunc(d)(impl.FindOfKind(d.List, number(w[0])))
	}},
	{"push", "L", func(d *impl.Desk, w []string) (string, bool) {
		if len(d.List) >= 8 {
			return "", false
		}
		return putList(d)(append(slices.Clip(d.List), d.Func), impl.ErrNone)
	}},
	{"clear", "L", func(d *impl.Desk, w []string) (string, bool) { return putList(d)(nil, impl.ErrNone) }},
	{"clone *", "L", func(d *impl.Desk, w []string) (string, bool) { return putList(d)(impl.GeneratorsOf(w[0])) }},
	{"relation # #", "R", func(d *impl.Desk, w []string) (string, bool) {
		r := impl.Relation{Places: number(w[0]), Tuples: number(w[1])}
		if r.Places < 1 || r.Places > 4 || r.Tuples > greatestTuples(r.Places) {
			return "", false
		}
		return putRelation(d)(r, impl.ErrNone)
	}},
	{"close", "R", func(d *impl.Desk, w []string) (string, bool) {
		return putRelation(d)(impl.ClosureOf(d.List, d.Relation))
	}},
	{"graph", "R", func(d *impl.Desk, w []string) (string, bool) { return putRelation(d)(impl.GraphOf(d.Func)) }},
	{"show", "", func(d *impl.Desk, w []string) (string, bool) { return textOfFunc(d.Func), true }},
	{"look", "", func(d *impl.Desk, w []string) (string, bool) { return textOfList(d.List), true }},
	{"see", "", func(d *impl.Desk, w []string) (string, bool) { return textOfRelation(d.Relation), true }},
	{"essential", "", func(d *impl.Desk, w []string) (string, bool) { return numbersTold(impl.EssentialOf(d.Func)) }},
	{"weight", "", func(d *impl.Desk, w []string) (string, bool) { return numberTold(impl.WeightOf(d.Func)) }},
	{"row", "", func(d *impl.Desk, w []string) (string, bool) { return numbersTold(impl.ClassRow(d.Func)) }},
	{"classes", "", func(d *impl.Desk, w []string) (string, bool) { return numbersTold(impl.ClassesOf(d.List)) }},
	{"complete", "", func(d *impl.Desk, w []string) (string, bool) { return answerTold(impl.IsComplete(d.List)) }},
	{"base", "", func(d *impl.Desk, w []string) (string, bool) { return answerTold(impl.IsBase(d.List)) }},
	{"sheffer", "", func(d *impl.Desk, w []string) (string, bool) { return answerTold(impl.IsSheffer(d.Func)) }},
	{"count #", "", func(d *impl.Desk, w []string) (string, bool) {
		return numberTold(impl.CountGenerated(d.List, number(w[0])))
	}},
	{"depths #", "", func(d *impl.Desk, w []string) (string, bool) {
		return numbersTold(impl.DepthNumbers(d.List, number(w[0])))
	}},
	{"depth", "", func(d *impl.Desk, w []string) (string, bool) { return numberTold(impl.DepthOf(d.List, d.Func)) }},
	{"keeps", "", func(d *impl.Desk, w []string) (string, bool) {
		return answerTold(impl.KeepsRelation(d.Func, d.Relation))
	}},
	{"tuples", "", func(d *impl.Desk, w []string) (string, bool) { return numberTold(impl.CountTuples(d.Relation)) }},
	{"which", "", func(d *impl.Desk, w []string) (string, bool) { return nameTold(impl.CloneName(d.List)) }},
	{"degree #", "", func(d *impl.Desk, w []string) (string, bool) {
		return numberTold(impl.SeparatingDegree(d.Func, number(w[0])))
	}},
	{"in *", "", func(d *impl.Desk, w []string) (string, bool) { return answerTold(impl.IsInNamed(d.Func, w[0])) }},
	{"kind #", "", func(d *impl.Desk, w []string) (string, bool) { return answerTold(impl.IsOfKind(d.Func, number(w[0]))) }},
	{"abelian", "", func(d *impl.Desk, w []string) (string, bool) { return answerTold(impl.IsAbelian(d.List)) }},
	{"reset", "FLR", func(d *impl.Desk, w []string) (string, bool) {
		*d = impl.Desk{Func: impl.Func{Arity: 2, Bits: 8}, Relation: impl.Relation{Places: 2, Tuples: 13}}
		return "ok", true
	}},
}

// patterns has for each line of the table what is written for it, with the words in groups.
var patterns = sync.OnceValue(func() []*regexp.Regexp {
	words := strings.NewReplacer("#", "(0|[1-9][0-9]{0,8})", "*", "([^ ]*)")
	var list []*regexp.Regexp
	for _, l := range tableLines {
		list = append(list, regexp.MustCompile(`(?s)\A`+words.Replace(l.form)+`\z`))
	}
	return list
})

// modelRun returns the desk after a line, its output, and the parts that it may change.
func modelRun(d impl.Desk, line string) (impl.Desk, string, string) {
	for i, pattern := range patterns() {
		if words := pattern.FindStringSubmatch(line); words != nil {
			after := sameAs(d)
			if output, done := tableLines[i].run(&after, words[1:]); done {
				return after, output, tableLines[i].changes
			}
		}
	}
	return d, "error", ""
}

func number(word string) int64 {
	n, err := strconv.ParseInt(word, 10, 64)
	if err != nil {
		panic(err)
	}
	return n
}

func putFunc(d *impl.Desk) func(impl.Func, int64) (string, bool) {
	return func(f impl.Func, code int64) (string, bool) {
		d.Func = f
		return textOfFunc(f), code == impl.ErrNone
	}
}

func putList(d *impl.Desk) func([]impl.Func, int64) (string, bool) {
	return func(list []impl.Func, code int64) (string, bool) {
		d.List = list
		return textOfList(list), code == impl.ErrNone
	}
}

func putRelation(d *impl.Desk) func(impl.Relation, int64) (string, bool) {
	return func(r impl.Relation, code int64) (string, bool) {
		d.Relation = r
		return textOfRelation(r), code == impl.ErrNone
	}
}

func numberTold(n int64, code int64) (string, bool) { return fmt.Sprint(n), code == impl.ErrNone }

func nameTold(name string, code int64) (string, bool) { return name, code == impl.ErrNone }

func numbersTold(list []int64, code int64) (string, bool) {
	if len(list) == 0 {
		return "none", code == impl.ErrNone
	}
	return strings.Trim(fmt.Sprint(list), "[]"), code == impl.ErrNone
}

func answerTold(holds bool, code int64) (string, bool) {
	return map[bool]string{true: "yes", false: "no"}[holds], code == impl.ErrNone
}

func textOfFunc(f impl.Func) string {
	text := fmt.Sprint(f.Arity) + ":"
	for _, arguments := range allArguments(f.Arity) {
		text += fmt.Sprint(modelValue(f, arguments))
	}
	return text
}

func textOfList(list []impl.Func) string {
	text := ""
	for _, f := range list {
		text += "," + textOfFunc(f)
	}
	if text == "" {
		return "none"
	}
	return text[1:]
}

func textOfRelation(r impl.Relation) string { return fmt.Sprint(r.Places, r.Tuples) }

// textOfDesk has the three parts as the console puts them out.
func textOfDesk(d impl.Desk) string {
	return textOfFunc(d.Func) + " / " + textOfList(d.List) + " / " + textOfRelation(d.Relation)
}

// deskOf reads what textOfDesk makes.
func deskOf(t *testing.T, text string) impl.Desk {
	t.Helper()
	parts := strings.Split(text, " / ")
	d := impl.Desk{Func: parsed(t, parts[0])}
	if parts[1] != "none" {
		d.List = funcsByText(t, strings.Split(parts[1], ",")...)
	}
	if _, err := fmt.Sscanf(parts[2], "%d %d", &d.Relation.Places, &d.Relation.Tuples); err != nil {
		t.Fatal(err)
	}
	return d
}

// withPart returns a desk with another part, told by its text.
func withPart(t *testing.T, d impl.Desk, part string, text string) impl.Desk {
	t.Helper()
	parts := strings.Split(textOfDesk(d), " / ")
	parts[strings.Index("FLR", part)] = text
	return deskOf(t, strings.Join(parts, " / "))
}

func sameAs(d impl.Desk) impl.Desk {
	return impl.Desk{Func: d.Func, List: slices.Clone(d.List), Relation: d.Relation}
}

func areSameDesks(a, b impl.Desk) bool {
	return a.Func == b.Func && slices.Equal(a.List, b.List) && a.Relation == b.Relation
}

// wantLine runs a line, and looks whether the desk that was given is as it was, too.
func wantLine(t *testing.T, d impl.Desk, line string, want impl.Desk, wantOutput string) {
	t.Helper()
	kept := sameAs(d)
	got, output := impl.RunLine(d, line)
	if !areSameDesks(got, want) || output != wantOutput {
		t.Errorf("%.80q on %v leads to %v and %q, want %v and %q", line, d, got, output, want, wantOutput)
	}
	if !areSameDesks(d, kept) {
		t.Errorf("%.80q made %v of the given %v", line, d, kept)
	}
}

func wantWrong(t *testing.T, d impl.Desk, line string) {
	t.Helper()
	wantLine(t, d, line, d, "error")
}

const newText = "2:0001 / none / 2 13"

// runCase is a line on a desk; a part that it changes is put out.
type runCase struct {
	desk   string
	part   string
	line   string
	output string
}

var runCases = []runCase{
	{newText, "F", "func 3:00010111", "3:00010111"},
	{newText, "F", "func 0:1", "0:1"},
	{newText, "F", "func 2:0001", "2:0001"},
	{"0:1 / 1:10 / 1 2", "F", "func 4:0110100110010110", "4:0110100110010110"},

	{newText, "F", "name zero", "0:0"}, {newText, "F", "name one", "0:1"}, {newText, "F", "name id", "1:01"}, {newText, "F", "name not", "1:10"},
	{newText, "F", "name and", "2:0001"}, {newText, "F", "name or", "2:0111"}, {newText, "F", "name xor", "2:0110"}, {newText, "F", "name nand", "2:1110"},
	{newText, "F", "name nor", "2:1000"}, {newText, "F", "name equal", "2:1001"}, {newText, "F", "name imply", "2:1011"},
	{newText, "F", "name majority", "3:00010111"}, {newText, "F", "name minority", "3:01101001"}, {newText, "F", "name if", "3:00011011"},

	{newText, "F", "formula 2 &a!b", "2:0100"}, {newText, "F", "formula 0 1", "0:1"}, {newText, "F", "formula 4 d", "4:0000000011111111"},
	{newText, "F", "formula 3 Mabc", "3:00010111"}, {newText, "F", "formula 3 ?abc", "3:00011011"}, {newText, "F", "formula 1 0", "1:00"},
	{newText, "F", "formula 1 " + strings.Repeat("!", 59) + "a", "1:10"},

	{newText, "F", "dual", "2:0111"}, {"3:00010111 / none / 2 13", "F", "dual", "3:00010111"}, {"2:1110 / none / 2 13", "F", "dual", "2:1000"},
	{"0:0 / none / 2 13", "F", "dual", "0:1"}, {"2:0100 / 1:10 / 2 0", "F", "dual", "2:1101"},
	{newText, "F", "negate", "2:1110"}, {"3:00010111 / none / 2 13", "F", "negate", "3:11101000"}, {"0:1 / none / 2 13", "F", "negate", "0:0"}, {"2:0100 / 1:10 / 2 0", "F", "negate", "2:1011"},
	{newText, "F", "core", "2:0001"}, {"3:00110011 / none / 2 13", "F", "core", "1:01"}, {"2:0000 / none / 2 13", "F", "core", "0:0"}, {"2:1111 / 0:0 / 2 13", "F", "core", "0:1"},
	{"3:01100110 / none / 2 13", "F", "core", "2:0110"}, {"4:0000000011111111 / none / 2 13", "F", "core", "1:01"}, {"0:0 / none / 2 13", "F", "core", "0:0"},

	{"2:0001 / 2:0001,2:0111 / 2 13", "F", "find 0", "3:00010111"}, {"0:1 / 2:0110 / 1 1", "F", "find 1", "3:01101001"}, {"0:1 / 2:0110 / 1 1", "F", "find 2", "3:01101001"},
	{"2:0001 / 2:0001 / 2 13", "F", "find 3", "3:00000001"}, {"2:0001 / 2:1110 / 2 13", "F", "find 0", "3:00010111"}, {"2:0001 / 2:1110 / 2 13", "F", "find 1", "3:01101001"},
	{"2:0001 / 2:1110 / 2 13", "F", "find 2", "3:01001001"}, {"2:0001 / 2:1110 / 2 13", "F", "find 3", "3:00000001"}, {"4:0000000000000001 / 2:0111 / 2 13", "F", "find 3", "3:01111111"},

	{newText, "L", "push", "2:0001"}, {"2:0001 / 1:10 / 2 13", "L", "push", "1:10,2:0001"}, {"2:0001 / 2:0001,1:10 / 2 13", "L", "push", "2:0001,1:10,2:0001"},
	{"4:0110100110010110 / 0:0 / 1 1", "L", "push", "0:0,4:0110100110010110"}, {"0:1 / 3:00010111,1:01 / 1 1", "L", "push", "3:00010111,1:01,0:1"},
	{newText, "L", "clear", "none"}, {"2:0001 / 1:10,2:0001 / 2 13", "L", "clear", "none"}, {"1:11 / 4:0000000000000001 / 3 7", "L", "clear", "none"},
	{newText, "L", "clone BF", "2:0001,1:10"}, {"0:1 / 1:10,0:1 / 1 1", "L", "clone M", "2:0111,2:0001,0:0,0:1"}, {"0:1 / 1:10,0:1 / 1 1", "L", "clone I2", "1:01"},
	{newText, "L", "clone S0^2", "2:1011,3:00010111"}, {newText, "L", "clone S11^3", "3:00010101,0:0,4:0000000100010111"}, {newText, "L", "clone S0", "2:1011"},

	{newText, "R", "relation 1 3", "1 3"}, {newText, "R", "relation 1 0", "1 0"}, {newText, "R", "relation 2 15", "2 15"}, {newText, "R", "relation 3 255", "3 255"},
	{newText, "R", "relation 4 65535", "4 65535"}, {newText, "R", "relation 4 0", "4 0"}, {newText, "R", "relation 2 13", "2 13"}, {"0:1 / 1:10 / 4 9", "R", "relation 3 10", "3 10"},
	{newText, "R", "close", "2 13"}, {"2:0001 / 1:10 / 2 13", "R", "close", "2 15"}, {"0:1 / 2:0001 / 2 6", "R", "close", "2 7"}, {"0:1 / 0:0 / 2 6", "R", "close", "2 7"},
	{"0:1 / 3:01101001 / 2 7", "R", "close", "2 15"}, {"0:1 / 2:0001 / 2 0", "R", "close", "2 0"}, {"2:0001 / 0:1 / 2 0", "R", "close", "2 8"}, {"0:0 / 2:0111,2:0001 / 3 6", "R", "close", "3 15"},
	{newText, "R", "graph", "3 135"}, {"2:0100 / 1:10 / 1 1", "R", "graph", "3 45"}, {"0:1 / none / 2 13", "R", "graph", "1 2"}, {"0:0 / none / 2 13", "R", "graph", "1 1"},
	{"1:10 / none / 2 13", "R", "graph", "2 6"}, {"3:00010111 / none / 2 13", "R", "graph", "4 59415"},

	{newText, "", "show", "2:0001"}, {"3:00010111 / 1:10,0:1 / 4 59415", "", "show", "3:00010111"}, {"0:0 / 1:10 / 1 1", "", "show", "0:0"}, {"4:0110100110010110 / none / 1 1", "", "show", "4:0110100110010110"},
	{newText, "", "look", "none"}, {"3:00010111 / 1:10,0:1 / 4 59415", "", "look", "1:10,0:1"}, {"0:0 / 1:10 / 1 1", "", "look", "1:10"}, {"0:0 / 1:10,1:10,4:0110100110010110 / 1 1", "", "look", "1:10,1:10,4:0110100110010110"},
	{newText, "", "see", "2 13"}, {"3:00010111 / 1:10,0:1 / 4 59415", "", "see", "4 59415"}, {"0:0 / 1:10 / 1 1", "", "see", "1 1"}, {"0:0 / 1:10 / 3 0", "", "see", "3 0"},

	{newText, "", "essential", "0 1"}, {"3:00110011 / none / 2 13", "", "essential", "1"}, {"0:1 / none / 2 13", "", "essential", "none"}, {"2:1111 / 2:0001 / 2 13", "", "essential", "none"},
	{"4:0000000011111111 / none / 2 13", "", "essential", "3"}, {"4:0110100110010110 / none / 2 13", "", "essential", "0 1 2 3"},
	{newText, "", "weight", "1"}, {"0:0 / none / 2 13", "", "weight", "0"}, {"4:1111111111111111 / none / 2 13", "", "weight", "16"}, {"3:00010111 / none / 2 13", "", "weight", "4"},
	{newText, "", "row", "1 1 0 1 0"}, {"1:10 / none / 2 13", "", "row", "0 0 1 0 1"}, {"1:01 / none / 2 13", "", "row", "1 1 1 1 1"}, {"0:0 / none / 2 13", "", "row", "1 0 0 1 1"}, {"2:1110 / none / 2 13", "", "row", "0 0 0 0 0"},
	{newText, "", "classes", "0 1 2 3 4"}, {"1:10 / 2:0001,2:0111 / 2 13", "", "classes", "0 1 3"}, {"2:0001 / 2:0001,1:10 / 2 13", "", "classes", "none"}, {"2:0001 / 1:10 / 2 13", "", "classes", "2 4"},
	{newText, "", "complete", "no"}, {"2:0001 / 2:1110 / 2 13", "", "complete", "yes"}, {"2:0001 / 2:0001,1:10 / 2 13", "", "complete", "yes"}, {"2:1110 / 2:0001,2:0111 / 2 13", "", "complete", "no"}, {"2:0001 / 2:1110,2:0001 / 2 13", "", "complete", "yes"},
	{newText, "", "base", "no"}, {"2:0001 / 2:1110 / 2 13", "", "base", "yes"}, {"2:0001 / 2:0001,1:10 / 2 13", "", "base", "yes"}, {"2:1110 / 2:0001,2:0111 / 2 13", "", "base", "no"}, {"2:0001 / 2:1110,2:0001 / 2 13", "", "base", "no"},
	{newText, "", "sheffer", "no"}, {"2:1110 / 2:0001 / 2 13", "", "sheffer", "yes"}, {"2:1000 / none / 2 13", "", "sheffer", "yes"}, {"1:10 / 2:1110 / 2 13", "", "sheffer", "no"},

	{newText, "", "count 2", "2"}, {newText, "", "count 3", "3"}, {"0:0 / 2:0001 / 2 13", "", "count 2", "3"}, {"0:0 / 2:0001 / 2 13", "", "count 3", "7"},
	{"0:0 / 2:1110 / 2 13", "", "count 2", "16"}, {"0:0 / 2:1110 / 2 13", "", "count 3", "256"}, {"0:0 / 4:0000000000000001 / 2 13", "", "count 2", "3"}, {"0:0 / 3:00010111 / 2 13", "", "count 2", "2"},
	{newText, "", "depths 2", "2"}, {newText, "", "depths 3", "3"}, {"0:0 / 2:0001 / 2 13", "", "depths 2", "2 1"}, {"0:0 / 2:0001 / 2 13", "", "depths 3", "3 3 1"}, {"0:0 / 1:10 / 2 13", "", "depths 2", "2 2"}, {"0:0 / 0:1,1:10 / 2 13", "", "depths 3", "3 4 1"},
	{"2:0001 / 2:0001 / 2 13", "", "depth", "1"}, {"2:0101 / 2:0001 / 2 13", "", "depth", "0"}, {"3:00000001 / 2:0001 / 2 13", "", "depth", "2"}, {"2:1110 / 2:0001,1:10 / 2 13", "", "depth", "2"}, {"3:00001111 / none / 2 13", "", "depth", "0"}, {"2:0001 / 4:0000000000000001 / 2 13", "", "depth", "1"},

	{newText, "", "keeps", "yes"}, {"1:10 / none / 2 13", "", "keeps", "no"}, {"1:10 / none / 2 6", "", "keeps", "yes"}, {"2:0001 / none / 2 6", "", "keeps", "no"}, {"2:0001 / none / 2 0", "", "keeps", "yes"}, {"0:0 / none / 2 0", "", "keeps", "no"}, {"0:0 / none / 4 1", "", "keeps", "yes"},
	{newText, "", "tuples", "3"}, {"2:0001 / none / 2 0", "", "tuples", "0"}, {"2:0001 / none / 4 65535", "", "tuples", "16"}, {"2:0001 / none / 1 2", "", "tuples", "1"},
	{newText, "", "which", "I2"}, {"1:10 / 2:0001 / 2 13", "", "which", "E2"}, {"0:0 / 2:0001,1:10 / 2 13", "", "which", "BF"}, {"0:0 / 3:00010111 / 2 13", "", "which", "D2"}, {"0:0 / 2:1011 / 2 13", "", "which", "S0"}, {"0:0 / 2:1011,3:00010111 / 2 13", "", "which", "S0^2"},
	{newText, "", "degree 1", "9"}, {newText, "", "degree 0", "1"}, {"3:00010111 / none / 2 13", "", "degree 0", "2"}, {"3:00010111 / none / 2 13", "", "degree 1", "2"}, {"0:1 / none / 2 13", "", "degree 1", "0"}, {"0:1 / none / 2 13", "", "degree 0", "9"}, {"4:0001011101111111 / none / 2 13", "", "degree 0", "3"},
	{newText, "", "in E2", "yes"}, {newText, "", "in M2", "yes"}, {newText, "", "in V2", "no"}, {"1:10 / none / 2 13", "", "in N2", "yes"}, {"1:10 / 2:0001 / 2 13", "", "in M", "no"}, {"3:00010111 / none / 2 13", "", "in S0^2", "yes"}, {"3:00010111 / none / 2 13", "", "in S0^3", "no"},
	{"3:00010111 / none / 2 13", "", "kind 0", "yes"}, {"3:00010111 / none / 2 13", "", "kind 1", "no"}, {"3:00010111 / none / 2 13", "", "kind 2", "no"}, {"3:00010111 / none / 2 13", "", "kind 3", "yes"},
	{"3:01101001 / none / 2 13", "", "kind 1", "yes"}, {"3:01001001 / none / 2 13", "", "kind 2", "yes"}, {newText, "", "kind 3", "no"}, {"4:0001011101111111 / none / 2 13", "", "kind 0", "no"},
	{newText, "", "abelian", "yes"}, {"3:00010111 / 2:0001 / 2 13", "", "abelian", "yes"}, {"0:0 / 2:0001,2:0111 / 2 13", "", "abelian", "no"}, {"0:0 / 0:0,0:1 / 2 13", "", "abelian", "no"}, {"0:0 / 2:0110,0:0 / 2 13", "", "abelian", "yes"}, {"2:0001 / 3:00010111 / 2 13", "", "abelian", "no"},
}

// wrongCases has lines of the right form for which a number or a word is not as it has to be, or a function
// returns another code than ErrNone.
var wrongCases = []struct {
	desk  string
	lines []string
}{
	{newText, []string{"func 2:001", "func 2:00010", "func 5:0", "func 2:0002", "func and", "func :", "func 2", "func 02:0001", "func 2:0001,", "func 3:0001", "func 4:01101001", "func -1:0", "func none"}},
	{newText, []string{"name AND", "name 2:0001", "name nothing", "name E2", "name none", "name 2", "name an", "name ands"}},
	{newText, []string{"formula 1 b", "formula 0 a", "formula 3 &ad", "formula 5 a", "formula 5 1", "formula 999999999 a", "formula 2 &a", "formula 2 x", "formula 2 ab", "formula a 2", "formula 2 2", "formula 2 2:0001", "formula 1 " + strings.Repeat("!", 60) + "a"}},
	{newText, []string{"find 0", "find 1", "find 2", "find 3", "find 4", "find 999999999"}},
	{"3:00010111 / 2:0001 / 2 13", []string{"find 0", "find 1", "find 2", "find 4"}},
	{"2:0001 / 3:00010111 / 2 13", []string{"find 0", "find 3", "count 3", "depths 3"}},
	{"2:0001 / 2:1110,4:0000000000000001 / 2 13", []string{"find 0", "find 1", "find 2", "find 3", "count 3", "depths 3"}},
	{"2:0001 / 2:1110 / 2 13", []string{"find 4", "find 5", "find 10", "count 0", "count 1", "count 4", "count 999999999", "depths 0", "depths 1", "depths 4", "depths 999999999"}},
	{"2:0001 / 1:10,2:0001 / 2 13", []string{"clone bf", "clone S0^4", "clone S0^1", "clone S0^", "clone X", "clone and", "clone 2:0001", "clone none", "clone BF,"}},
	{"2:0001 / 1:10 / 3 9", []string{"relation 0 0", "relation 0 1", "relation 5 0", "relation 5 1", "relation 1 4", "relation 2 16", "relation 3 256", "relation 4 65536", "relation 4 999999999", "relation 999999999 0", "relation 64 0", "relation a 1", "relation 1 a", "relation 0 a"}},
	{"4:0000000000000001 / 2:0001 / 2 13", []string{"graph", "depth"}},
	{"4:0101010101010101 / none / 4 65535", []string{"graph", "depth"}},
	{"2:0111 / 2:0001 / 2 13", []string{"depth"}}, {"2:0001 / none / 2 13", []string{"depth"}}, {"1:01 / 2:1110 / 2 13", []string{"depth"}}, {"0:0 / 2:1110,0:0 / 2 13", []string{"depth"}},
	{"3:00010111 / 3:00010111 / 2 13", []string{"depth"}}, {"3:01010101 / 4:0000000000000001 / 2 13", []string{"depth"}}, {"3:00010111 / 2:0001 / 2 13", []string{"depth"}},
	{newText, []string{"degree 2", "degree 9", "degree 10", "degree 999999999"}},
	{"3:00010111 / none / 2 13", []string{"in e2", "in S9", "in S0^4", "in 2:0001", "in majority", "in none", "in BF^2", "kind 4", "kind 5", "kind 10", "kind 999999999"}},
}

// linesOfCases has each line once, those of the table in their order, reset as the last one of them.
func linesOfCases() (right []string, wrong []string) {
	for _, c := range runCases {
		right = append(right, c.line)
	}
	for _, c := range wrongCases {
		wrong = append(wrong, c.lines...)
	}
	wrong = append(wrong, "", " ", "fly", "show ", " show", "func", "func  2:0001", "relation 2", "push 2:0001", "relation 02 13", "find +0", "count 2 ")
	slices.Sort(wrong)
	return append(unique(right), "reset"), slices.Compact(wrong)
}

func unique(lines []string) []string {
	var list []string
	for _, line := range lines {
		if !slices.Contains(list, line) {
			list = append(list, line)
		}
	}
	return list
}

// someDesks has desks with functions of all arities, lists of all lengths and relations of all numbers of places.
func someDesks(t *testing.T, count int) []impl.Desk {
	funcs := funcsByText(t, "2:0001", "3:00010111", "1:10", "2:1110", "0:1", "4:0110100110010110", "2:0110", "3:00110011", "2:0101", "4:0000000011111111", "2:1111", "3:01101001",
		"0:0", "2:1011", "3:00011011", "1:01", "4:0001011101111111", "3:00000001", "2:0100", "1:00", "3:11101000", "2:1000", "4:0000000000000000")
	lists := slices.Concat([][]impl.Func{nil, {}}, every(shortLists(), 11), every(wideLists(t, 2), 2), every(wideLists(t, 4), 2), every(someLists(t), 17))
	relations := slices.Concat(relationsOf(1, 1), relationsOf(2, 3), relationsOf(3, 61), relationsOf(4, 9973), classRelations())
	var desks []impl.Desk
	for i := range count {
		desks = append(desks, impl.Desk{Func: funcs[i%len(funcs)], List: lists[7*i%len(lists)], Relation: relations[5*i%len(relations)]})
	}
	return append(desks, impl.NewDesk())
}

func TestConsoleConstants(t *testing.T) {
	if impl.MaxConsole != 4000 || impl.MaxLines != 40 {
		t.Errorf("MaxConsole is %d, MaxLines is %d", impl.MaxConsole, impl.MaxLines)
	}
}

func TestNewDesk(t *testing.T) {
	d := impl.NewDesk()
	if d.Func != (impl.Func{Arity: 2, Bits: 8}) || len(d.List) != 0 || d.Relation != (impl.Relation{Places: 2, Tuples: 13}) {
		t.Errorf("NewDesk = %v", d)
	}
	if textOfDesk(d) != newText || !areSameDesks(d, deskOf(t, newText)) {
		t.Errorf("NewDesk = %s, want %s", textOfDesk(d), newText)
	}
	if !impl.IsDesk(d) {
		t.Error("the new desk is none")
	}
}

func TestIsDesk(t *testing.T) {
	for _, d := range someDesks(t, 500) {
		if !impl.IsDesk(d) {
			t.Errorf("%v is no desk", d)
		}
	}
	for _, f := range smallAndSomeLarge() {
		for length := range impl.MaxList + 1 {
			if d := (impl.Desk{Func: f, List: slices.Repeat([]impl.Func{f}, length), Relation: impl.Relation{Places: 4, Tuples: 65535}}); !impl.IsDesk(d) {
				t.Errorf("%v is no desk", d)
			}
		}
	}
	for _, r := range smallAndSomeWide() {
		if d := (impl.Desk{Relation: r}); !impl.IsDesk(d) {
			t.Errorf("%v is no desk", d)
		}
	}
}

// noDesks has what fails in one part alone, and in more of them.
func noDesks(t *testing.T) []impl.Desk {
	good := deskOf(t, "2:0001 / 2:1110,1:10 / 2 13")
	list := []impl.Desk{{}, {Func: good.Func}, {Func: good.Func, List: good.List}, {List: good.List}}
	for _, f := range brokenFuncs() {
		list = append(list, impl.Desk{Func: f, List: good.List, Relation: good.Relation}, impl.Desk{Func: f, Relation: good.Relation}, impl.Desk{Func: f})
		for _, length := range []int{1, 2, impl.MaxList, impl.MaxList + 1} {
			for _, place := range []int{0, length / 2, length - 1} {
				funcs := slices.Repeat([]impl.Func{good.Func}, length)
				funcs[place] = f
				list = append(list, impl.Desk{Func: good.Func, List: funcs, Relation: good.Relation})
			}
		}
	}
	for _, r := range brokenRelations() {
		list = append(list, impl.Desk{Func: good.Func, List: good.List, Relation: r}, impl.Desk{Func: good.Func, Relation: r}, impl.Desk{Func: impl.Func{Arity: 5}, Relation: r})
	}
	for _, length := range []int{impl.MaxList + 1, impl.MaxList + 2, 16, 64, 1 << 16} {
		list = append(list, impl.Desk{Func: good.Func, List: slices.Repeat([]impl.Func{good.Func}, length), Relation: good.Relation})
	}
	return list
}

func TestStructsThatAreNoDesks(t *testing.T) {
	right, wrong := linesOfCases()
	lines := slices.Concat(right, every(wrong, 3), []string{"", strings.Repeat(" ", 100)})
	for _, d := range noDesks(t) {
		if impl.IsDesk(d) {
			t.Errorf("%.200v is a desk", fmt.Sprint(d))
		}
		for _, line := range lines {
			got, output := impl.RunLine(d, line)
			if got.Func != (impl.Func{}) || len(got.List) != 0 || got.Relation != (impl.Relation{}) || output != "" {
				t.Errorf("%q on %.200v leads to %v and %q", line, fmt.Sprint(d), got, output)
			}
		}
	}
}

func TestLinesOfTheTable(t *testing.T) {
	seen := map[string]bool{"reset": true}
	for _, c := range runCases {
		d := deskOf(t, c.desk)
		want := d
		if c.part != "" {
			want = withPart(t, d, c.part, c.output)
		}
		wantLine(t, d, c.line, want, c.output)
		seen[strings.Fields(c.line)[0]] = true
	}
	if len(seen) != len(tableLines) || len(seen) != 34 {
		t.Errorf("%d lines of %d were run", len(seen), len(tableLines))
	}
}

func TestReset(t *testing.T) {
	for _, d := range someDesks(t, 200) {
		wantLine(t, d, "reset", deskOf(t, newText), "ok")
	}
}

func TestWrongLines(t *testing.T) {
	for _, c := range wrongCases {
		for _, line := range c.lines {
			wantWrong(t, deskOf(t, c.desk), line)
		}
	}
}

// TestLinesOnManyDesks holds lines against the model, and looks at the guarantee: what is not told to change stays,
// and with the output error all does.
func TestLinesOnManyDesks(t *testing.T) {
	right, wrong := linesOfCases()
	for i, d := range someDesks(t, 250) {
		for _, line := range slices.Concat(right, every(wrong[i%5:], 5)) {
			checkRun(t, d, line)
		}
	}
}

// checkRun returns the desk after a line.
func checkRun(t *testing.T, d impl.Desk, line string) impl.Desk {
	t.Helper()
	want, output, changes := modelRun(d, line)
	wantLine(t, d, line, want, output)
	after, _ := impl.RunLine(d, line)
	if !impl.IsDesk(after) {
		t.Errorf("%q on %v leads to %v, which is no desk", line, d, after)
	}
	if d.Func != after.Func && !strings.Contains(changes, "F") ||
		!slices.Equal(d.List, after.List) && !strings.Contains(changes, "L") ||
		d.Relation != after.Relation && !strings.Contains(changes, "R") {
		t.Errorf("%q on %v changes more than %q: %v", line, d, changes, after)
	}
	if show := map[string]string{"F": "show", "L": "look", "R": "see"}[changes]; show != "" {
		wantLine(t, after, show, after, output)
	}
	return after
}

// TestLinesLeadFromDesksToDesks goes by what the program's own functions tell.
func TestLinesLeadFromDesksToDesks(t *testing.T) {
	r := rand.New(rand.NewPCG(11, 1))
	for _, d := range someDesks(t, 60) {
		for range 60 {
			line := drawLine(r)
			after, output := impl.RunLine(d, line)
			if !impl.IsDesk(after) {
				t.Fatalf("%q on %v leads to %v", line, d, after)
			}
			if output == "error" && !areSameDesks(after, d) {
				t.Fatalf("%q on %v has the output error and leads to %v", line, d, after)
			}
			if output == "" || strings.Contains(output, "\n") {
				t.Fatalf("%q on %v has the output %q", line, d, output)
			}
			d = after
		}
	}
}

// drawLine draws a line of the table with words that suit it, most of the time.
func drawLine(r *rand.Rand) string {
	form := tableLines[r.IntN(len(tableLines))].form
	command, _, _ := strings.Cut(form, " ")
	var words []string
	for _, word := range strings.Split(form, " ") {
		switch word {
		case "#":
			word = drawNumber(r, command)
		case "*":
			word = drawWord(r, command)
		}
		words = append(words, word)
	}
	line := strings.Join(words, " ")
	if r.IntN(10) == 0 {
		return damaged(r, line)
	}
	return line
}

func drawNumber(r *rand.Rand, command string) string {
	limit := map[string]int64{"count": 5, "depths": 5, "degree": 3, "relation": 17}[command]
	if limit == 0 {
		limit = 5
	}
	return fmt.Sprint(r.Int64N(limit))
}

func drawWord(r *rand.Rand, command string) string {
	if r.IntN(12) == 0 {
		command = []string{"func", "name", "formula", "clone"}[r.IntN(4)]
	}
	switch command {
	case "func":
		n := r.Int64N(5)
		return textOfFunc(impl.Func{Arity: n, Bits: r.Int64N(1 << (1 << n))})
	case "name":
		names := []string{"zero", "one", "id", "not", "and", "or", "xor", "nand", "nor", "equal", "imply", "majority", "minority", "if", "none"}
		return names[r.IntN(len(names))]
	case "formula":
		return drawFormula(r, 1+r.IntN(12), "aabbcd01")
	}
	names := namesOfModels()
	return names[r.IntN(len(names))]
}

// damaged leaves out, puts in or changes a byte.
func damaged(r *rand.Rand, line string) string {
	place := r.IntN(len(line))
	ahead, behind := line[:place], line[place:]
	b := drawByte(r, " 0129:,aAsS\t\x00\xff-+")
	switch r.IntN(3) {
	case 0:
		return ahead + b + behind
	case 1:
		return ahead + b + behind[1:]
	}
	return ahead + behind[1:]
}

func TestWordsMissingAndTooMany(t *testing.T) {
	right, _ := linesOfCases()
	for i, d := range someDesks(t, 20) {
		wantWrong(t, d, "")
		for _, line := range every(right[i%3:], 3) {
			words := strings.Split(line, " ")
			for length := range words {
				wantWrong(t, d, strings.Join(words[:length], " "))
				wantWrong(t, d, strings.Join(words[length+1:], " "))
			}
			for _, more := range []string{"", "0", "2", "a", "E2", "2:0001", "show", "none", words[0], words[len(words)-1]} {
				wantWrong(t, d, line+" "+more)
				wantWrong(t, d, more+" "+line)
				wantWrong(t, d, strings.Join(slices.Insert(slices.Clone(words), 1, more), " "))
			}
		}
	}
}

func TestBlanks(t *testing.T) {
	right, _ := linesOfCases()
	for i, d := range someDesks(t, 20) {
		for _, line := range every(right[i%2:], 2) {
			for _, wrong := range []string{" " + line, line + " ", " " + line + " ", "  " + line, line + "  "} {
				wantWrong(t, d, wrong)
			}
			if strings.Contains(line, " ") {
				wantWrong(t, d, strings.Replace(line, " ", "  ", 1))
				wantWrong(t, d, strings.ReplaceAll(line, " ", "   "))
				last := strings.LastIndex(line, " ")
				wantWrong(t, d, line[:last]+" "+line[last:])
				wantWrong(t, d, line[:last+1])
			}
		}
		for length := range 10 {
			wantWrong(t, d, strings.Repeat(" ", length))
		}
	}
}

// TestOtherBytesThanBlanks has what some take for a blank, too.
func TestOtherBytesThanBlanks(t *testing.T) {
	right, _ := linesOfCases()
	for i, d := range someDesks(t, 12) {
		for _, other := range []string{"\t", "\n", "\v", "\f", "\r", "\r\n", "\x00", "\x1f", "\x7f", "\x85", "\xa0", "\u00a0", "\u2003", "\u3000", "\ufeff", ",", ";", ":", "_", "=", ""} {
			for _, line := range every(right[i%4:], 4) {
				if strings.Contains(line, " ") {
					wantWrong(t, d, strings.Replace(line, " ", other, 1))
					wantWrong(t, d, strings.ReplaceAll(line, " ", other))
				}
				if other != "" {
					wantWrong(t, d, other+line)
					wantWrong(t, d, line+other)
					wantWrong(t, d, line+other+line)
				}
			}
		}
	}
}

func TestLinesOfAnyByte(t *testing.T) {
	d := deskOf(t, "2:0001 / 2:1110 / 2 13")
	for b := range 256 {
		symbol := string([]byte{byte(b)})
		for _, line := range []string{symbol, "show" + symbol, symbol + "show", "sh" + symbol + "w", "func" + symbol + "2:0001", "find " + symbol, "kind 1" + symbol, "name and" + symbol, "relation 2 " + symbol, "relation " + symbol + " 3", "formula 2 " + symbol} {
			checkRun(t, d, line)
		}
	}
}

// TestWordsThatAreNoCommand has words that are near to one, but for those that are another one.
func TestWordsThatAreNoCommand(t *testing.T) {
	commands := map[string]bool{}
	for _, l := range tableLines {
		commands[strings.Fields(l.form)[0]] = true
	}
	right, _ := linesOfCases()
	d := deskOf(t, "2:0001 / 2:1110 / 2 13")
	near := func(word string, rest string) {
		if !commands[word] {
			wantWrong(t, d, word+rest)
		}
	}
	for _, line := range right {
		command, _, _ := strings.Cut(line, " ")
		rest := line[len(command):]
		near(strings.ToUpper(command), rest)
		near(strings.ToUpper(command[:1])+command[1:], rest)
		near(command+command, rest)
		for place := range len(command) {
			near(command[:place], rest)
			near(command[:place]+command[place+1:], rest)
			for _, b := range "aesx0-." {
				near(command[:place]+string(b)+command[place:], rest)
				near(command[:place]+string(b)+command[place+1:], rest)
			}
		}
		near(command+"s", rest)
		near(command+"x", rest)
	}
	for _, word := range []string{"fly", "help", "quit", "exit", "F", "L", "R", "yes", "no", "none", "ok", "error", "0", "2", "2:0001", "TEXT", "duals", "dual,", "dual,negate", "dual, negate, core", "show, look, see", "pop", "parse", "functions", "closure", "clones", "degrees"} {
		wantWrong(t, d, word)
	}
}

// numberLines have a number each that some desk takes; the % stands for it.
var numberLines = []struct {
	desk   string
	line   string
	number string
}{
	{newText, "formula % &ab", "2"}, {newText, "formula % 1", "0"}, {newText, "formula % a", "4"},
	{"2:0001 / 2:1110 / 2 13", "find %", "0"}, {"2:0001 / 2:1110 / 2 13", "find %", "3"},
	{newText, "relation % 1", "1"}, {newText, "relation % 0", "4"}, {newText, "relation 2 %", "0"}, {newText, "relation 2 %", "10"}, {newText, "relation 4 %", "65535"},
	{newText, "count %", "2"}, {newText, "count %", "3"}, {newText, "depths %", "2"}, {newText, "depths %", "3"},
	{newText, "degree %", "0"}, {newText, "degree %", "1"}, {newText, "kind %", "0"}, {newText, "kind %", "1"}, {newText, "kind %", "3"},
}

// otherSpellings has what means the number somewhere, but is none here.
func otherSpellings(number string) []string {
	list := []string{"", "a", "two", "yes", "none", "+", "-", "'", "٢", "２", "II", "-1", "-2", "1000000000", "9999999999", "2147483648", "4294967296", "9223372036854775807", "9223372036854775808", "18446744073709551615", "100000000000000000000000000"}
	for _, ahead := range []string{"0", "00", "+", "-", "--", "0x", "0b", "0o", "_", "\t", "\x00", "\n", "'", "\"", "(", ".", ",", "1_", "00000000", "000000000", "0000000000", "00000000000000000000000000"} {
		list = append(list, ahead+number)
	}
	for _, behind := range []string{".", ".0", ",", "e0", "E0", "_", "\t", "\x00", "\n", "\r", "'", ")", "a", ":", "_0", "L", "/1", "0000000000"} {
		list = append(list, number+behind)
	}
	wide, _ := strconv.ParseUint(number, 10, 64)
	for _, power := range []uint64{1 << 31, 1 << 32, 1 << 62, 1 << 63} {
		list = append(list, strconv.FormatUint(wide+power, 10))
	}
	return append(list, fmt.Sprint("1844674407370955161", 6+wide), strings.Map(func(digit rune) rune { return digit - '0' + '０' }, number))
}

func TestNumbersInLines(t *testing.T) {
	for _, l := range numberLines {
		d := deskOf(t, l.desk)
		line := strings.Replace(l.line, "%", l.number, 1)
		if _, output := impl.RunLine(d, line); output == "error" {
			t.Errorf("%q on %s has the output error", line, l.desk)
		}
		checkRun(t, d, line)
		for _, word := range otherSpellings(l.number) {
			wantWrong(t, d, strings.Replace(l.line, "%", word, 1))
		}
		// Numbers of up to nine digits that the functions refuse.
		for _, word := range []string{"999999999", "999999998", "100000000", "99999999", "65536", "64", "20", "17", "16"} {
			line := strings.Replace(l.line, "%", word, 1)
			checkRun(t, d, line)
			if l.line != "relation 4 %" {
				wantWrong(t, d, line)
			}
		}
		for n := range 70 {
			checkRun(t, d, strings.Replace(l.line, "%", fmt.Sprint(n), 1))
		}
	}
}

func TestPush(t *testing.T) {
	for _, f := range funcsByText(t, "2:0001", "0:1", "4:0110100110010110") {
		d := impl.Desk{Func: f, Relation: impl.Relation{Places: 1, Tuples: 2}}
		for length := 1; length <= impl.MaxList; length++ {
			list := slices.Repeat([]impl.Func{f}, length)
			want := impl.Desk{Func: f, List: list, Relation: d.Relation}
			wantLine(t, d, "push", want, textOfList(list))
			d = want
		}
		wantWrong(t, d, "push")
		wantLine(t, d, "clear", impl.Desk{Func: f, Relation: d.Relation}, "none")
	}
	one := deskOf(t, "1:10 / 0:0,0:1,1:00,1:01,1:11,2:0001,2:0111 / 2 13")
	full := withPart(t, one, "L", "0:0,0:1,1:00,1:01,1:11,2:0001,2:0111,1:10")
	wantLine(t, one, "push", full, "0:0,0:1,1:00,1:01,1:11,2:0001,2:0111,1:10")
	wantWrong(t, full, "push")
}

// TestPushBehindSpareCapacity has lists that are beginnings of longer ones.
func TestPushBehindSpareCapacity(t *testing.T) {
	whole := funcsByText(t, "0:0", "0:1", "1:00", "1:01", "1:11", "2:0001", "2:0111", "2:0110", "3:00010111", "4:0000000000000001")
	kept := slices.Clone(whole)
	for length := range impl.MaxList + 1 {
		d := impl.Desk{Func: impl.Func{Arity: 1, Bits: 1}, List: whole[:length], Relation: impl.Relation{Places: 1}}
		first, output := impl.RunLine(d, "push")
		second, _ := impl.RunLine(impl.Desk{Func: whole[0], List: whole[:length], Relation: d.Relation}, "push")
		if !slices.Equal(whole, kept) {
			t.Fatalf("push made %v of the given %v", whole, kept)
		}
		if length == impl.MaxList {
			if output != "error" || !slices.Equal(first.List, kept[:length]) {
				t.Errorf("push onto %d functions: %v, %q", length, first, output)
			}
			continue
		}
		if !slices.Equal(first.List, append(slices.Clone(kept[:length]), d.Func)) || !slices.Equal(second.List, append(slices.Clone(kept[:length]), whole[0])) {
			t.Errorf("push onto %d functions leads to %v, and at another time to %v", length, first, second)
		}
	}
}

func TestRelationLines(t *testing.T) {
	d := deskOf(t, "3:00010111 / 2:0001,1:10 / 2 6")
	for places := range int64(7) {
		tuples := []int64{0, 1, 2, 3, 4, 5, 14, 15, 16, 17, 254, 255, 256, 257, 65534, 65535, 65536, 65537, 1 << 20, 999999999}
		for _, n := range tuples {
			text := fmt.Sprint(places, " ", n)
			if places < 1 || places > 4 || n > greatestTuples(places) {
				wantWrong(t, d, "relation "+text)
			} else {
				wantLine(t, d, "relation "+text, withPart(t, d, "R", text), text)
			}
		}
	}
	for _, r := range brokenRelations() {
		wantWrong(t, d, fmt.Sprint("relation ", r.Places, " ", r.Tuples))
	}
	for _, r := range smallAndSomeWide() {
		wantLine(t, d, "relation "+textOfRelation(r), withPart(t, d, "R", textOfRelation(r)), textOfRelation(r))
	}
}

func TestFuncLines(t *testing.T) {
	d := deskOf(t, "3:00010111 / 2:0001,1:10 / 2 6")
	for _, f := range smallAndSomeLarge() {
		wantLine(t, d, "func "+textOfFunc(f), impl.Desk{Func: f, List: d.List, Relation: d.Relation}, textOfFunc(f))
	}
}

// TestClonesOfAllNames has the generators of each name, which lead back to it.
func TestClonesOfAllNames(t *testing.T) {
	for _, m := range nameModels {
		d := deskOf(t, "3:00010111 / 2:0001,1:10 / 2 6")
		list := strings.ReplaceAll(m.generators, " ", ",")
		after := withPart(t, d, "L", list)
		wantLine(t, d, "clone "+m.name, after, list)
		wantLine(t, after, "which", after, m.name)
		wantLine(t, after, "look", after, list)
		for _, f := range after.List {
			pushed := impl.Desk{Func: f, List: after.List, Relation: after.Relation}
			wantLine(t, pushed, "in "+m.name, pushed, "yes")
		}
	}
}

func TestVeryLongLines(t *testing.T) {
	d := deskOf(t, "2:0001 / 2:1110 / 2 13")
	for _, length := range []int{61, 1000, impl.MaxConsole, impl.MaxConsole + 1, 1 << 16, 1 << 20} {
		for _, part := range []string{" ", "a", "0", "1", "9", "&", "!", "show ", "\n", "\x00", "\xff", "é"} {
			long := strings.Repeat(part, length/len(part))
			for _, line := range []string{long, "show" + long, "show " + long, "func " + long, "func 2:" + long, "name " + long, "formula 2 " + long, "formula " + long + " a", "find " + long, "clone " + long, "clone E2" + long, "relation 2 " + long, "relation " + long + " 2", "in " + long, long + " show", long + "show"} {
				wantWrong(t, d, line)
			}
		}
	}
}

// sessionText is a text with the outputs of its lines.
type sessionText struct {
	text    string
	outputs string
	after   string
}

var sessionTexts = []sessionText{
	{"", "", newText},
	{"\n", "", newText}, {"\n\n\n", "", newText}, {strings.Repeat("\n", 40), "", newText},
	{"show", "2:0001\n", newText}, {"show\n", "2:0001\n", newText}, {"\nshow", "2:0001\n", newText}, {"show\n\n", "2:0001\n", newText}, {"\n\nshow\n\n\nlook\n", "2:0001\nnone\n", newText},
	{"show\nlook\nsee", "2:0001\nnone\n2 13\n", newText}, {"row\n", "1 1 0 1 0\n", newText},
	{" ", "error\n", newText}, {" \n", "error\n", newText}, {"\n \n\n", "error\n", newText}, {"\r\n", "error\n", newText}, {"show\r\nlook\r\n", "error\nerror\n", newText}, {"\x00", "error\n", newText},
	{"fly\nfly\n\nfly", "error\nerror\nerror\n", newText}, {"show;look", "error\n", newText}, {"show look", "error\n", newText},
	{"push\nnegate\npush\nlook\nfly\nbase\nclassic\nclasses", "2:0001\n2:1110\n2:0001,2:1110\n2:0001,2:1110\nerror\nno\nerror\nnone\n", "2:1110 / 2:0001,2:1110 / 2 13"},
	{"name not\npush\nclose\nsee\ntuples\nreset\nsee\nlook\nshow\n", "1:10\n1:10\n2 15\n2 15\n4\nok\n2 13\nnone\n2:0001\n", newText},
	{"func 3:00110011\ncore\ngraph\nkeeps\npush\nclear\n", "3:00110011\n1:01\n2 9\nyes\n1:01\nnone\n", "1:01 / none / 2 9"},
	{"clone S0^2\nwhich\nfind 0\nname or\npush\ncount 2\n", "2:1011,3:00010111\nS0^2\nerror\n2:0111\n2:1011,3:00010111,2:0111\n6\n", "2:0111 / 2:1011,3:00010111,2:0111 / 2 13"},
	{"clone M2\nfind 0\ndepth\nkind 0\ndegree 0\ndegree 1\nin D2\ndual\nessential\n", "2:0111,2:0001\n3:00010111\n3\nyes\n2\n2\nyes\n3:00010111\n0 1 2\n", "3:00010111 / 2:0111,2:0001 / 2 13"},
	{"relation 3 9\nfunc 4:0000000000000001\ngraph\nsee\nfunc 9:0\nshow", "3 9\n4:0000000000000001\nerror\n3 9\nerror\n4:0000000000000001\n", "4:0000000000000001 / none / 3 9"},
	{strings.Repeat("push\n", 9) + "look", "2:0001\n2:0001,2:0001\n2:0001,2:0001,2:0001\n" + strings.Repeat("2:0001,", 3) + "2:0001\n" + strings.Repeat("2:0001,", 4) + "2:0001\n" + strings.Repeat("2:0001,", 5) + "2:0001\n" + strings.Repeat("2:0001,", 6) + "2:0001\n" + strings.Repeat("2:0001,", 7) + "2:0001\nerror\n" + strings.Repeat("2:0001,", 7) + "2:0001\n",
		"2:0001 / " + strings.Repeat("2:0001,", 7) + "2:0001 / 2 13"},
}

func wantSession(t *testing.T, text string, outputs string, after impl.Desk) {
	t.Helper()
	if got := impl.Console(text); got != outputs {
		t.Errorf("Console(%.200q) = %q, want %q", text, got, outputs)
	}
	if d, accepted := impl.DeskAfter(text); !accepted || !areSameDesks(d, after) {
		t.Errorf("DeskAfter(%.200q) = %v, %v, want %v", text, d, accepted, after)
	}
}

func wantRefused(t *testing.T, text string) {
	t.Helper()
	if got := impl.Console(text); got != "" {
		t.Errorf("Console(%.200q) = %q", text, got)
	}
	if d, accepted := impl.DeskAfter(text); accepted || d.Func != (impl.Func{}) || len(d.List) != 0 || d.Relation != (impl.Relation{}) {
		t.Errorf("DeskAfter(%.200q) = %v, %v", text, d, accepted)
	}
}

func TestConsole(t *testing.T) {
	for _, s := range sessionTexts {
		wantSession(t, s.text, s.outputs, deskOf(t, s.after))
	}
}

// TestConsoleOfTooManyBytes has short texts of many bytes, which are wrong lines, and a right one ahead and behind.
func TestConsoleOfTooManyBytes(t *testing.T) {
	d := deskOf(t, "2:1110 / none / 2 13")
	for _, part := range []string{"x", " ", "0", "\x00", "\xff"} {
		for length := impl.MaxConsole - 2; length <= impl.MaxConsole+2; length++ {
			for _, text := range []string{
				"negate\n" + strings.Repeat(part, length-12) + "\nlook",
				"negate\nlook\n" + strings.Repeat(part, length-12),
				strings.Repeat(part, length-13) + "\nnegate\nlook\n",
				"negate\n\n\nlook " + strings.Repeat(part, length-14),
			} {
				if length > impl.MaxConsole {
					wantRefused(t, text)
				} else {
					checkConsole(t, text)
				}
			}
			if length <= impl.MaxConsole {
				wantSession(t, "negate\n"+strings.Repeat(part, length-12)+"\nlook", "2:1110\nerror\nnone\n", d)
			}
		}
	}
	// Bytes count, not letters.
	wantSession(t, strings.Repeat("é", 2000), "error\n", deskOf(t, newText))
	wantRefused(t, strings.Repeat("é", 2001))
	wantRefused(t, strings.Repeat("\u3000", 1334))
	for _, part := range []string{"x", "show\n", "\n", " ", "\x00\n"} {
		wantRefused(t, strings.Repeat(part, 1<<20/len(part)))
	}
}

func TestConsoleOfTooManyLines(t *testing.T) {
	start := deskOf(t, newText)
	for lines := 37; lines <= 43; lines++ {
		texts := map[string]string{
			strings.Repeat("show\n", lines):                            strings.Repeat("2:0001\n", lines),
			strings.Repeat("show\n", lines-1) + "show":                 strings.Repeat("2:0001\n", lines),
			strings.Repeat("\n", lines):                                "",
			strings.Repeat("\n", lines-1) + "show":                     "2:0001\n",
			strings.Repeat("\n", lines-1) + "show\n":                   "2:0001\n",
			"show" + strings.Repeat("\n", lines):                       "2:0001\n",
			"see\n" + strings.Repeat("\n", lines-2) + "look":           "2 13\nnone\n",
			strings.Repeat("fly\n", lines-1) + " ":                     strings.Repeat("error\n", lines),
			strings.Repeat("\n", lines-3) + "show\n\nlook\n":           "2:0001\nnone\n",
			strings.Repeat("\n", 20) + strings.Repeat("x\n", lines-20): strings.Repeat("error\n", lines-20),
		}
		for text, outputs := range texts {
			if lines > impl.MaxLines {
				wantRefused(t, text)
			} else {
				wantSession(t, text, outputs, start)
			}
		}
	}
	// As many bytes and as many lines as there may be, and one more of each.
	full := strings.Repeat(strings.Repeat("x", 99)+"\n", 40)
	wantSession(t, full, strings.Repeat("error\n", 40), start)
	wantRefused(t, full+"\n")
	wantRefused(t, full+"x")
	wantRefused(t, "x"+full)
	wantRefused(t, full[:3999]+"x\n")
	wantSession(t, full[:3999], strings.Repeat("error\n", 40), start)
	wantSession(t, full[:3999]+"x", strings.Repeat("error\n", 40), start)
	wantRefused(t, full[1:3999]+"\n\n")
}

// checkConsole holds a text against its lines, run one after the other from the new desk.
func checkConsole(t *testing.T, text string) {
	t.Helper()
	lines := strings.Split(text, "\n")
	if lines[len(lines)-1] == "" {
		lines = lines[:len(lines)-1]
	}
	if len(text) > 4000 || len(lines) > 40 {
		wantRefused(t, text)
		return
	}
	d, outputs := impl.NewDesk(), ""
	for _, line := range lines {
		if line != "" {
			var output string
			d, output = impl.RunLine(d, line)
			outputs += output + "\n"
		}
	}
	wantSession(t, text, outputs, d)
}

// drawSession draws a text of up to some lines, some of them empty, with a newline at its end or without.
func drawSession(r *rand.Rand, most int) string {
	text := ""
	for range r.IntN(most + 1) {
		if r.IntN(12) > 0 {
			text += drawLine(r)
		}
		text += "\n"
	}
	if r.IntN(2) == 0 {
		return strings.TrimSuffix(text, "\n")
	}
	return text
}

func drawnSessions(count int, most int) []string {
	r := rand.New(rand.NewPCG(11, uint64(most)))
	var texts []string
	for range count {
		texts = append(texts, drawSession(r, most))
	}
	return texts
}

func TestConsoleAgainstRunLine(t *testing.T) {
	for _, s := range sessionTexts {
		checkConsole(t, s.text)
	}
	for _, text := range slices.Concat(drawnSessions(300, 5), drawnSessions(500, 40), drawnSessions(100, 60)) {
		checkConsole(t, text)
	}
	for _, symbols := range []string{"\n", "s\n", "show\n ", "\nlook"} {
		r := rand.New(rand.NewPCG(11, uint64(len(symbols))))
		for length := range 60 {
			text := ""
			for range length {
				text += drawByte(r, symbols)
			}
			checkConsole(t, text)
		}
	}
}

// TestSessionsAgainstTheModel goes on from desk to desk; each output of the table must come often.
func TestSessionsAgainstTheModel(t *testing.T) {
	done := map[string]int{}
	for _, text := range drawnSessions(3000, 39) {
		d := impl.NewDesk()
		for line := range strings.SplitSeq(text, "\n") {
			after := checkRun(t, d, line)
			if _, output := impl.RunLine(d, line); output != "error" {
				done[strings.Split(line, " ")[0]]++
			}
			d = after
		}
	}
	for _, l := range tableLines {
		if command := strings.Fields(l.form)[0]; done[command] < 50 {
			t.Errorf("%s was done %d times", command, done[command])
		}
	}
	if len(done) != len(tableLines) {
		t.Errorf("%v were done", slices.Sorted(maps.Keys(done)))
	}
}

func TestDesksShareNoMemory(t *testing.T) {
	whole := funcsByText(t, "2:1011", "0:1", "1:10", "4:0001011101111111", "2:1011", "3:00010111", "0:0", "2:0110", "2:0001", "1:01")
	kept := slices.Clone(whole)
	right, wrong := linesOfCases()
	for _, line := range slices.Concat(right, wrong) {
		for length := range impl.MaxList + 1 {
			d := impl.Desk{Func: impl.Func{Arity: 2, Bits: 14}, List: whole[:length], Relation: impl.Relation{Places: 2, Tuples: 6}}
			after, output := impl.RunLine(d, line)
			told := sameAs(after)
			if !slices.Equal(whole, kept) {
				t.Fatalf("%q made %v of the given %v", line, whole, kept)
			}
			clear(whole)
			if !areSameDesks(after, told) {
				t.Fatalf("%q: a change of the given list made %v of %v", line, after, told)
			}
			copy(whole, kept)
			clear(after.List[:cap(after.List)])
			_ = append(after.List, impl.Func{Arity: 4, Bits: 77})
			if !slices.Equal(whole, kept) {
				t.Fatalf("%q: a change of the list after it made %v of the given %v", line, whole, kept)
			}
			if again, sameOutput := impl.RunLine(d, line); !areSameDesks(again, told) || sameOutput != output {
				t.Fatalf("%q leads to %v and %q, and before to %v and %q", line, again, sameOutput, told, output)
			}
		}
	}
}

func TestDesksOfTextsAreNewMemory(t *testing.T) {
	for _, text := range slices.Concat([]string{"", "push", "clone BF", "clone M\npush", "push\nreset", "push\nclear", "push\nfly"}, drawnSessions(50, 39)) {
		first, _ := impl.DeskAfter(text)
		kept := sameAs(first)
		second, _ := impl.DeskAfter(text)
		clear(first.List[:cap(first.List)])
		_ = append(first.List, impl.Func{Arity: 4, Bits: 77})
		if third, accepted := impl.DeskAfter(text); !accepted || !areSameDesks(second, kept) || !areSameDesks(third, kept) {
			t.Errorf("DeskAfter(%q) = %v, %v, and before %v", text, third, accepted, kept)
		}
	}
	d := impl.NewDesk()
	_ = append(d.List[:cap(d.List)], impl.Func{Arity: 4, Bits: 77})
	if again := impl.NewDesk(); textOfDesk(again) != newText {
		t.Errorf("NewDesk = %v", again)
	}
}

// TestConsoleAtOnce has calls that go on at the same time, each of them more than once, on desks that share a list.
func TestConsoleAtOnce(t *testing.T) {
	whole := funcsByText(t, "2:1011", "0:1", "1:10", "2:0110", "2:0111", "0:0", "2:0110", "2:0001", "1:01")
	var calls sync.WaitGroup
	for i, text := range drawnSessions(40, 39) {
		outputs := impl.Console(text)
		last, _ := impl.DeskAfter(text)
		d := impl.Desk{Func: impl.Func{Arity: 2, Bits: 6}, List: whole[:i%9], Relation: impl.Relation{Places: 2, Tuples: 13}}
		line, _, _ := strings.Cut(text, "\n")
		after, output := impl.RunLine(d, line)
		for range 4 {
			calls.Go(func() {
				wantSession(t, text, outputs, last)
				wantLine(t, d, line, after, output)
				impl.RunLine(d, "push")
			})
		}
	}
	calls.Wait()
}
