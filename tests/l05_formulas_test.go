package tests

import (
	"fmt"
	"math/rand/v2"
	"slices"
	"strings"
	"sync"
	"testing"

	"loop.example/g01323/impl"
)

const (
	allSymbols = "abcd01!&|^?M"
	allGates   = "01!&|^?M"
)

// gateModel tells what the chapter says of a byte of a formula; variables have no value here.
type gateModel struct {
	places int
	value  func(v []int64) int64
}

func modelGate(symbol byte) (gateModel, bool) {
	switch symbol {
	case 'a', 'b', 'c', 'd':
		return gateModel{places: 0}, true
	case '0':
		return gateModel{0, func([]int64) int64 { return 0 }}, true
	case '1':
		return gateModel{0, func([]int64) int64 { return 1 }}, true
	case '!':
		return gateModel{1, func(v []int64) int64 { return 1 - v[0] }}, true
	case '&':
		return gateModel{2, func(v []int64) int64 { return min(v[0], v[1]) }}, true
	case '|':
		return gateModel{2, func(v []int64) int64 { return max(v[0], v[1]) }}, true
	case '^':
		return gateModel{2, func(v []int64) int64 { return (v[0] + v[1]) % 2 }}, true
	case '?':
		return gateModel{3, func(v []int64) int64 { return v[2-v[0]] }}, true
	case 'M':
		return gateModel{3, func(v []int64) int64 { return (v[0] + v[1] + v[2]) / 2 }}, true
	}
	return gateModel{}, false
}

// formulaModel has what the definitions say of a formula.
type formulaModel struct {
	text  string
	size  int64
	depth int64
	dual  string
	put   string
	parts []string
	value func(arguments []int64) int64
}

// modelFormula reads a text from its last byte to its first, so that the formulas at the places of a
// gate lie on a stack when the gate comes. The list is what is put into the formula.
func modelFormula(text string, list [4]string) (formulaModel, bool) {
	if len(text) < 1 || len(text) > 60 {
		return formulaModel{}, false
	}
	var stack []formulaModel
	for i := len(text) - 1; i >= 0; i-- {
		gate, is := modelGate(text[i])
		if !is || len(stack) < gate.places {
			return formulaModel{}, false
		}
		below := len(stack) - gate.places
		parts := slices.Clone(stack[below:])
		slices.Reverse(parts)
		stack = append(stack[:below], modelNode(text[i], gate, parts, list))
	}
	if len(stack) != 1 {
		return formulaModel{}, false
	}
	return stack[0], true
}

func modelNode(symbol byte, gate gateModel, parts []formulaModel, list [4]string) formulaModel {
	if gate.value == nil {
		i := symbol - 'a'
		value := func(arguments []int64) int64 { return arguments[i] }
		return formulaModel{text: string(symbol), dual: string(symbol), put: list[i], value: value}
	}
	m := formulaModel{text: string(symbol), put: string(symbol)}
	var duals []string
	for _, part := range parts {
		m.text += part.text
		m.put += part.put
		m.size += part.size
		m.depth = max(m.depth, part.depth)
		m.parts = append(m.parts, part.text)
		duals = append(duals, part.dual)
	}
	if gate.places > 0 {
		m.size++
		m.depth++
	}
	m.dual = modelDual(symbol, duals)
	m.value = func(arguments []int64) int64 {
		var values []int64
		for _, part := range parts {
			values = append(values, part.value(arguments))
		}
		return gate.value(values)
	}
	return m
}

func modelDual(symbol byte, duals []string) string {
	switch symbol {
	case '^':
		return "!^" + duals[0] + duals[1]
	case '?':
		return "?" + duals[0] + duals[2] + duals[1]
	}
	for _, pair := range []string{"&|", "|&", "01", "10"} {
		if symbol == pair[0] {
			return pair[1:] + strings.Join(duals, "")
		}
	}
	return string(symbol) + strings.Join(duals, "")
}

func modelVariables(text string) []int64 {
	var variables []int64
	for i := range int64(4) {
		if strings.Contains(text, "abcd"[i:i+1]) {
			variables = append(variables, i)
		}
	}
	return variables
}

// leastArity is the least n whose variables are enough for a formula.
func leastArity(text string) int64 {
	variables := modelVariables(text)
	if len(variables) == 0 {
		return 0
	}
	return slices.Max(variables) + 1
}

// drawFormula draws a formula of a length.
func drawFormula(r *rand.Rand, length int, leaves string) string {
	if length == 1 {
		return drawByte(r, leaves)
	}
	places := 1 + r.IntN(min(3, length-1))
	text := drawByte(r, []string{"!", "&|^", "?M"}[places-1])
	rest := length - 1
	for left := places; left > 1; left-- {
		part := 1 + r.IntN(rest-left+1)
		text += drawFormula(r, part, leaves)
		rest -= part
	}
	return text + drawFormula(r, rest, leaves)
}

func drawByte(r *rand.Rand, bytes string) string {
	i := r.IntN(len(bytes))
	return bytes[i : i+1]
}

// drawnFormulas has some formulas of each length from 1 to greatest; they are the same in each run.
func drawnFormulas(greatest int, ofEach int, leaves string) []string {
	r := rand.New(rand.NewPCG(5, uint64(greatest)))
	var formulas []string
	for length := 1; length <= greatest; length++ {
		for range ofEach {
			formulas = append(formulas, drawFormula(r, length, leaves))
		}
	}
	return formulas
}

// checkText holds all that is told of a text alone against the model.
func checkText(t *testing.T, text string) {
	t.Helper()
	want, is := modelFormula(text, [4]string{"a", "b", "c", "d"})
	if got := impl.IsFormula(text); got != is {
		t.Errorf("IsFormula(%q) = %v", text, got)
	}
	if !is {
		wantNoFormula(t, text)
		return
	}
	if got, code := impl.SizeOfFormula(text); got != want.size || code != impl.ErrNone {
		t.Errorf("SizeOfFormula(%q) = %d, %d, want %d", text, got, code, want.size)
	}
	if got, code := impl.DepthOfFormula(text); got != want.depth || code != impl.ErrNone {
		t.Errorf("DepthOfFormula(%q) = %d, %d, want %d", text, got, code, want.depth)
	}
	variables := modelVariables(text)
	if got, code := impl.VariablesOfFormula(text); !slices.Equal(got, variables) || code != impl.ErrNone {
		t.Errorf("VariablesOfFormula(%q) = %v, %d, want %v", text, got, code, variables)
	}
	if got, code := impl.PartsOfFormula(text); !slices.Equal(got, want.parts) || code != impl.ErrNone {
		t.Errorf("PartsOfFormula(%q) = %q, %d, want %q", text, got, code, want.parts)
	}
	wantText(t, "DualFormula of "+text, want.dual)(impl.DualFormula(text))
	wantText(t, "PutFormulas of variables into "+text, text)(impl.PutFormulas(text, []string{"a", "b", "c", "d"}))
	checkFuncs(t, want)
}

// wantText returns a check of a call that returns a formula, if this is not too long.
func wantText(t *testing.T, call string, want string) func(string, int64) {
	t.Helper()
	wantCode := int64(impl.ErrNone)
	if len(want) > 60 {
		want, wantCode = "", impl.ErrLimit
	}
	return func(got string, code int64) {
		t.Helper()
		if got != want || code != wantCode {
			t.Errorf("%s = %q, %d, want %q, %d", call, got, code, want, wantCode)
		}
	}
}

func checkFuncs(t *testing.T, m formulaModel) {
	t.Helper()
	least := leastArity(m.text)
	for _, n := range extremes {
		want, wantCode := impl.Func{}, int64(impl.ErrRange)
		if n >= least && n <= 4 {
			want, wantCode = modelFunc(n, m.value), impl.ErrNone
		}
		wantFunc(t, fmt.Sprintf("FuncOfFormula(%d, %q)", n, m.text), want, wantCode)(impl.FuncOfFormula(n, m.text))
	}
}

// wantNoFormula checks all functions with a text for ErrSyntax, and zero values beside it; the other
// arguments are good ones and bad ones.
func wantNoFormula(t *testing.T, text string) {
	t.Helper()
	for _, n := range []int64{4, 0, 5, -1} {
		wantFunc(t, fmt.Sprintf("FuncOfFormula(%d, %.70q)", n, text), impl.Func{}, impl.ErrSyntax)(impl.FuncOfFormula(n, text))
	}
	size, a := impl.SizeOfFormula(text)
	depth, b := impl.DepthOfFormula(text)
	variables, c := impl.VariablesOfFormula(text)
	dual, d := impl.DualFormula(text)
	parts, e := impl.PartsOfFormula(text)
	if size != 0 || depth != 0 || len(variables) != 0 || dual != "" || len(parts) != 0 {
		t.Errorf("%.70q: %d, %d, %v, %q, %q beside errors", text, size, depth, variables, dual, parts)
	}
	if codes := []int64{a, b, c, d, e}; !slices.Equal(codes, slices.Repeat([]int64{impl.ErrSyntax}, 5)) {
		t.Errorf("%.70q: codes %v", text, codes)
	}
	wantNoPut(t, text, []string{"a", "b", "c", "d"}, impl.ErrSyntax)
	wantNoPut(t, text, nil, impl.ErrSyntax)
	wantNoPut(t, "a", []string{"a", "b", "c", text}, impl.ErrSyntax)
	wantNoPut(t, "0", []string{text}, impl.ErrSyntax)
	wantNoPut(t, "1", []string{"a", "b", "c", "d", text}, impl.ErrSyntax)
}

func wantNoPut(t *testing.T, text string, list []string, want int64) {
	t.Helper()
	if got, code := impl.PutFormulas(text, list); got != "" || code != want {
		t.Errorf("PutFormulas(%.70q, %.70q) = %q, %d, want the code %d", text, list, got, code, want)
	}
}

func TestMaxFormula(t *testing.T) {
	if impl.MaxFormula != 60 {
		t.Errorf("MaxFormula is %d", impl.MaxFormula)
	}
}

func TestShortTextsAgainstTheDefinition(t *testing.T) {
	texts := []string{""}
	for length := 0; length <= 4; length++ {
		var longer []string
		for _, text := range texts {
			checkText(t, text)
			for _, symbol := range allSymbols + "e" {
				longer = append(longer, text+string(symbol))
			}
		}
		texts = longer
	}
}

func TestDrawnFormulasAgainstTheDefinition(t *testing.T) {
	for _, text := range drawnFormulas(61, 30, "abcd01") {
		checkText(t, text)
	}
	for _, text := range drawnFormulas(60, 10, "0b1") {
		checkText(t, text)
	}
}

// TestDamagedFormulas has drawn formulas with one byte left out, put in or changed.
func TestDamagedFormulas(t *testing.T) {
	r := rand.New(rand.NewPCG(5, 6))
	for _, text := range drawnFormulas(61, 10, "abcd01") {
		at := r.IntN(len(text))
		symbol := drawByte(r, allSymbols+"e m-\x00\xff")
		checkText(t, text[:at]+text[at+1:])
		checkText(t, text[:at]+symbol+text[at:])
		checkText(t, text[:at]+symbol+text[at+1:])
		checkText(t, text+symbol)
	}
}

func TestFormulasOfAnyByte(t *testing.T) {
	for b := range 256 {
		symbol := string([]byte{byte(b)})
		for _, text := range []string{symbol, "!" + symbol, "&a" + symbol, "M" + symbol + "bc", symbol + "abc", "a" + symbol} {
			checkText(t, text)
		}
	}
	for _, text := range []string{"é", "ａ", "&aé", "\U0001d44e", "!а", "a\n", " a", "A", "m", "a\x00"} {
		checkText(t, text)
	}
}

func TestFormulasOfGreatLengths(t *testing.T) {
	for _, length := range []int{1, 59, 60, 61, 62, 120, 1 << 20} {
		texts := []string{
			strings.Repeat("!", length-1) + "a",
			strings.Repeat("&", length/2) + strings.Repeat("b", (length+1)/2),
			strings.Repeat("M", length/3) + strings.Repeat("c", length-length/3),
			strings.Repeat("a", length),
			strings.Repeat("?", length),
			strings.Repeat("\x80", length),
		}
		for _, text := range texts {
			checkText(t, text)
		}
	}
	if text := strings.Repeat("!", 59) + "d"; !impl.IsFormula(text) || impl.IsFormula("!"+text) {
		t.Error("a formula has 60 bytes at most")
	}
}

func TestFormulas(t *testing.T) {
	cases := []struct {
		text        string
		n           int64
		f           string
		size, depth int64
		dual        string
		parts       []string
	}{
		{"a", 1, "1:01", 0, 0, "a", nil},
		{"d", 4, "4:0000000011111111", 0, 0, "d", nil},
		{"0", 0, "0:0", 0, 0, "1", nil},
		{"1", 2, "2:1111", 0, 0, "0", nil},
		{"!0", 0, "0:1", 1, 1, "!1", []string{"0"}},
		{"!b", 2, "2:1100", 1, 1, "!b", []string{"b"}},
		{"!!a", 1, "1:01", 2, 2, "!!a", []string{"!a"}},
		{"&ab", 2, "2:0001", 1, 1, "|ab", []string{"a", "b"}},
		{"|ab", 2, "2:0111", 1, 1, "&ab", []string{"a", "b"}},
		{"^ab", 2, "2:0110", 1, 1, "!^ab", []string{"a", "b"}},
		{"?abc", 3, "3:00011011", 1, 1, "?acb", []string{"a", "b", "c"}},
		{"?cab", 3, "3:00110101", 1, 1, "?cba", []string{"c", "a", "b"}},
		{"Mabc", 3, "3:00010111", 1, 1, "Mabc", []string{"a", "b", "c"}},
		{"M0aa", 1, "1:01", 1, 1, "M1aa", []string{"0", "a", "a"}},
		{"|&a!b&!ab", 2, "2:0110", 5, 3, "&|a!b|!ab", []string{"&a!b", "&!ab"}},
		{"^^ab^^cd1", 4, "4:1001011001101001", 4, 3, "!^!^ab!^!^cd0", []string{"^ab", "^^cd1"}},
		{"?!a|b1M0cd", 4, "4:1010101010101111", 4, 2, "?!aM1cd&b0", []string{"!a", "|b1", "M0cd"}},
	}
	for _, c := range cases {
		checkText(t, c.text)
		wantFunc(t, "FuncOfFormula of "+c.text, parsed(t, c.f), impl.ErrNone)(impl.FuncOfFormula(c.n, c.text))
		size, _ := impl.SizeOfFormula(c.text)
		depth, _ := impl.DepthOfFormula(c.text)
		dual, _ := impl.DualFormula(c.text)
		parts, _ := impl.PartsOfFormula(c.text)
		if size != c.size || depth != c.depth || dual != c.dual || !slices.Equal(parts, c.parts) {
			t.Errorf("of %s: %d, %d, %q, %q, want %d, %d, %q, %q", c.text, size, depth, dual, parts, c.size, c.depth, c.dual, c.parts)
		}
	}
}

func TestVariablesThatNAllows(t *testing.T) {
	for i, variable := range []string{"a", "b", "c", "d"} {
		for _, text := range []string{variable, "!" + variable, "&a" + variable, "?10" + variable} {
			n := int64(i) + 1
			if f, code := impl.FuncOfFormula(n, text); f.Arity != n || code != impl.ErrNone {
				t.Errorf("FuncOfFormula(%d, %q) = %v, %d", n, text, f, code)
			}
			wantFunc(t, fmt.Sprintf("FuncOfFormula(%d, %q)", n-1, text), impl.Func{}, impl.ErrRange)(impl.FuncOfFormula(n-1, text))
		}
	}
}

// TestDualFormulasAtTheLimit has formulas with 19 and 20 gates `^`, and as many `!` as told.
func TestDualFormulasAtTheLimit(t *testing.T) {
	nineteen, twenty := strings.Repeat("^a", 19)+"b", strings.Repeat("^a", 20)+"b"
	for text, want := range map[string]int{nineteen: 58, "!!" + nineteen: 60, "!!!" + nineteen: 61, twenty: 61, "!" + twenty: 62, "!" + strings.Repeat("^", 29) + strings.Repeat("c", 30): 89} {
		dual, code := impl.DualFormula(text)
		if want <= 60 && (len(dual) != want || code != impl.ErrNone) || want > 60 && (dual != "" || code != impl.ErrLimit) {
			t.Errorf("DualFormula(%q) = %q, %d, want %d bytes", text, dual, code, want)
		}
		checkText(t, text)
	}
}

func TestDualFormulasHaveDualFunctions(t *testing.T) {
	duals := 0
	for _, text := range slices.Concat(drawnFormulas(60, 40, "abcd01"), drawnFormulas(20, 60, "ab")) {
		dual, code := impl.DualFormula(text)
		if code != impl.ErrNone {
			continue
		}
		duals++
		for n := leastArity(text); n <= 4; n++ {
			f, _ := impl.FuncOfFormula(n, text)
			want, _ := impl.DualOf(f)
			wantFunc(t, fmt.Sprintf("FuncOfFormula(%d, %q), the dual of %q", n, dual, text), want, impl.ErrNone)(impl.FuncOfFormula(n, dual))
		}
	}
	if duals < 2000 {
		t.Errorf("only %d formulas have duals within the limit", duals)
	}
}

func TestPartsAreFormulas(t *testing.T) {
	for _, text := range drawnFormulas(60, 20, "abcd01") {
		parts, code := impl.PartsOfFormula(text)
		size, depth := int64(0), int64(0)
		for _, part := range parts {
			partSize, a := impl.SizeOfFormula(part)
			partDepth, b := impl.DepthOfFormula(part)
			if !impl.IsFormula(part) || a != impl.ErrNone || b != impl.ErrNone {
				t.Errorf("%q, a part of %q, is no formula", part, text)
			}
			size += partSize
			depth = max(depth, partDepth)
		}
		whole, _ := impl.SizeOfFormula(text)
		deep, _ := impl.DepthOfFormula(text)
		if code != impl.ErrNone || len(parts) > 0 && (whole != size+1 || deep != depth+1 || text[1:] != strings.Join(parts, "")) {
			t.Errorf("PartsOfFormula(%q) = %q, %d", text, parts, code)
		}
	}
}

func TestPutFormulasAgainstTheDefinition(t *testing.T) {
	r := rand.New(rand.NewPCG(5, 7))
	within := 0
	for range 4000 {
		text := drawFormula(r, 1+r.IntN(60), "abcd01")
		var list [4]string
		longest := 1 + r.IntN(max(1, 120/len(text)))
		for i := range list {
			list[i] = drawFormula(r, 1+r.IntN(min(60, longest)), "abcd01")
		}
		want, _ := modelFormula(text, list)
		wantText(t, fmt.Sprintf("PutFormulas(%q, %q)", text, list), want.put)(impl.PutFormulas(text, list[:]))
		if len(want.put) <= 60 {
			within++
			checkPutFunction(t, text, list, want.put)
		}
	}
	if within < 1000 || within > 3800 {
		t.Errorf("%d of 4000 formulas are within the limit", within)
	}
}

// checkPutFunction goes by what the program's own functions tell.
func checkPutFunction(t *testing.T, text string, list [4]string, put string) {
	t.Helper()
	f, _ := impl.FuncOfFormula(4, text)
	for n := leastArity(strings.Join(list[:], "")); n <= 4; n++ {
		var funcs []impl.Func
		for _, g := range list {
			of, _ := impl.FuncOfFormula(n, g)
			funcs = append(funcs, of)
		}
		want, code := impl.PutFuncs(f, funcs)
		wantFunc(t, fmt.Sprintf("FuncOfFormula(%d, %q), of %q with %q", n, put, text, list), want, code)(impl.FuncOfFormula(n, put))
	}
}

func TestPutFormulas(t *testing.T) {
	of := func(length int) string { return strings.Repeat("!", length-1) + "c" }
	cases := []struct {
		text string
		list []string
		want string
		code int64
	}{
		{"&a!b", []string{"|ab", "0", "a", "a"}, "&|ab!0", impl.ErrNone},
		{"^ba", []string{"b", "a", "0", "0"}, "^ab", impl.ErrNone},
		{"Mabc", []string{"b", "c", "d", "a"}, "Mbcd", impl.ErrNone},
		{"?d10", []string{"0", "0", "0", "&da"}, "?&da10", impl.ErrNone},
		{"0", []string{of(60), of(60), of(60), of(60)}, "0", impl.ErrNone},
		{"d", []string{of(60), of(60), of(60), of(60)}, of(60), impl.ErrNone},
		{of(60), []string{"a", "b", "d", "0"}, strings.Repeat("!", 59) + "d", impl.ErrNone},
		{"!d", []string{"a", "a", "a", of(59)}, of(60), impl.ErrNone},
		{"!d", []string{"a", "a", "a", of(60)}, "", impl.ErrLimit},
		{"&ab", []string{of(30), of(29), "a", "a"}, "&" + of(30) + of(29), impl.ErrNone},
		{"&ab", []string{of(30), of(30), "a", "a"}, "", impl.ErrLimit},
		{"Mbbb", []string{"a", of(19), "a", "a"}, "M" + of(19) + of(19) + of(19), impl.ErrNone},
		{"!!Mbbb", []string{"a", of(19), "a", "a"}, "!!M" + of(19) + of(19) + of(19), impl.ErrNone},
		{"!!!Mbbb", []string{"a", of(19), "a", "a"}, "", impl.ErrLimit},
		{of(60), []string{"a", "a", "!a", "a"}, "", impl.ErrLimit},
		{strings.Repeat("&", 29) + "!" + strings.Repeat("c", 30), []string{"a", "a", of(60), "a"}, "", impl.ErrLimit},
	}
	for _, c := range cases {
		if got, code := impl.PutFormulas(c.text, c.list); got != c.want || code != c.code {
			t.Errorf("PutFormulas(%q, %q) = %q, %d, want %q, %d", c.text, c.list, got, code, c.want, c.code)
		}
	}
}

func TestPutFormulasErrors(t *testing.T) {
	long := strings.Repeat("!", 59) + "a"
	for _, length := range []int{0, 1, 2, 3, 5, 6, 8, 1000} {
		for _, text := range []string{"a", "0", "d", long, "&ab"} {
			for _, g := range []string{"a", "1", long} {
				wantNoPut(t, text, slices.Repeat([]string{g}, length), impl.ErrRange)
			}
		}
		for place := range min(length, 8) {
			list := slices.Repeat([]string{long}, length)
			list[place] = "&a"
			wantNoPut(t, "!a", list, impl.ErrSyntax)
			wantNoPut(t, "b", list, impl.ErrSyntax)
			list[place] = ""
			wantNoPut(t, "1", list, impl.ErrSyntax)
		}
	}
	for _, text := range []string{"", "&a", "ab", "e", "!" + long} {
		for place := range 4 {
			list := []string{"a", "b", "c", "d"}
			list[place] = text
			wantNoPut(t, "0", list, impl.ErrSyntax)
			wantNoPut(t, "!"+long, list, impl.ErrSyntax)
			wantNoPut(t, long, list, impl.ErrSyntax)
		}
	}
}

// choicesOf has all choices of gates; every other one has its gates from the last to the first.
func choicesOf(gates string) []string {
	var choices []string
	for number := range 1 << len(gates) {
		choice := ""
		for i := range len(gates) {
			symbol := gates[i : i+1]
			switch {
			case number>>i&1 == 0:
			case number%2 == 0:
				choice += symbol
			default:
				choice = symbol + choice
			}
		}
		choices = append(choices, choice)
	}
	return choices
}

// sizeModel has for each gate what it makes of functions of the arity n, all told by their Bits: for
// functions p, q and r at its places at p + q times their count, and so on.
type sizeModel struct {
	n     int64
	count int
	made  map[byte][]uint8
}

func modelSizes(n int64, gates string) sizeModel {
	m := sizeModel{n: n, count: 1 << (1 << n), made: map[byte][]uint8{}}
	for i := range len(gates) {
		gate, _ := modelGate(gates[i])
		m.made[gates[i]] = m.madeBy(gate)
	}
	return m
}

func (m sizeModel) madeBy(gate gateModel) []uint8 {
	var values []int
	for _, arguments := range allArguments(int64(gate.places)) {
		values = append(values, int(gate.value(arguments)))
	}
	var made []uint8
	put := make([]int, gate.places)
	for more := true; more; more = advance(put, m.count) {
		bits := 0
		for row := range 1 << m.n {
			at := 0
			for i, g := range put {
				at += g >> row & 1 << i
			}
			bits += values[at] << row
		}
		made = append(made, uint8(bits))
	}
	return made
}

// least lowers sizes until none gets lower any more; in no rounds, so that the order in which functions
// are found does not matter. A size of -1 is none.
func (m sizeModel) least(choice string) []int64 {
	sizes := slices.Repeat([]int64{-1}, m.count)
	for i := range m.n {
		sizes[modelFunc(m.n, func(arguments []int64) int64 { return arguments[i] }).Bits] = 0
	}
	for lowered := true; lowered; {
		lowered = false
		for i := range len(choice) {
			gate, _ := modelGate(choice[i])
			if m.lower(sizes, m.made[choice[i]], gate.places) {
				lowered = true
			}
		}
	}
	return sizes
}

func (m sizeModel) lower(sizes []int64, made []uint8, places int) bool {
	var found []int
	for bits, size := range sizes {
		if size >= 0 {
			found = append(found, bits)
		}
	}
	lowered := false
	set := func(at int, size int64) {
		if bits := made[at]; sizes[bits] < 0 || sizes[bits] > size {
			sizes[bits] = size
			lowered = true
		}
	}
	if places == 0 {
		set(0, 0)
		return lowered
	}
	m.eachPut(sizes, found, places, 0, 1, set)
	return lowered
}

func (m sizeModel) eachPut(sizes []int64, found []int, places int, at int, size int64, set func(int, int64)) {
	if places == 0 {
		set(at, size)
		return
	}
	for _, g := range found {
		m.eachPut(sizes, found, places-1, at*m.count+g, size+sizes[g], set)
	}
}

func numbersOfSizes(sizes []int64) []int64 {
	numbers := make([]int64, slices.Max(sizes)+1)
	for _, size := range sizes {
		if size >= 0 {
			numbers[size]++
		}
	}
	return numbers
}

// checkSizes holds a choice against the model, with every function whose Bits are first, first + step, ..
func (m sizeModel) checkSizes(t *testing.T, choice string, first int, step int) {
	t.Helper()
	sizes := m.least(choice)
	numbers := numbersOfSizes(sizes)
	if got, code := impl.SizeNumbers(choice, m.n); !slices.Equal(got, numbers) || code != impl.ErrNone {
		t.Errorf("SizeNumbers(%q, %d) = %v, %d, want %v", choice, m.n, got, code, numbers)
	}
	for bits := first; bits < m.count; bits += step {
		f := impl.Func{Arity: m.n, Bits: int64(bits)}
		want, wantCode := sizes[bits], int64(impl.ErrNone)
		if want < 0 {
			want, wantCode = 0, impl.ErrNotFound
		}
		wantAnswer(t, "LeastSizeOf "+choice, f, want, wantCode)(impl.LeastSizeOf(choice, f))
	}
}

func TestLeastSizesOfFewVariables(t *testing.T) {
	for n := range int64(3) {
		model := modelSizes(n, allGates)
		for _, choice := range choicesOf(allGates) {
			model.checkSizes(t, choice, 0, 1)
		}
	}
}

// TestLeastSizesOfThreeVariables has all choices without gates of three places, and some with them:
// what the model does for these takes long.
func TestLeastSizesOfThreeVariables(t *testing.T) {
	model := modelSizes(3, allGates)
	for i, choice := range choicesOf("01!&|^") {
		model.checkSizes(t, choice, i%7, 7)
	}
	for _, choice := range []string{"", "!&", "&|", "M", "M!", "1M", "01M", "?", "M|&", "?M", "^M!", "&M10"} {
		model.checkSizes(t, choice, 0, 1)
	}
	for i, choice := range []string{"?0", "1?&", "^&M", "01?", "!M0", "!?", "M^?", allGates} {
		model.checkSizes(t, choice, i, 29)
	}
}

func TestSizeNumbers(t *testing.T) {
	cases := []struct {
		gates string
		n     int64
		want  []int64
	}{
		{"", 0, nil},
		{"!&|^?M", 0, nil},
		{"0", 0, []int64{1}},
		{"10", 0, []int64{2}},
		{"!1", 0, []int64{1, 1}},
		{"^1M", 0, []int64{1, 1}},
		{"", 1, []int64{1}},
		{"", 2, []int64{2}},
		{"", 3, []int64{3}},
		{"01", 3, []int64{5}},
		{"!", 3, []int64{3, 3}},
		{"&", 2, []int64{2, 1}},
		{"&", 3, []int64{3, 3, 1}},
		{"^", 3, []int64{3, 4, 1}},
		{"M", 2, []int64{2}},
		{"M", 3, []int64{3, 1}},
		{"&|", 3, []int64{3, 6, 8, 0, 1}},
		{"|!&", 2, []int64{2, 4, 8, 0, 2}},
		{"&!", 2, []int64{2, 3, 4, 4, 1, 0, 0, 2}},
	}
	for _, c := range cases {
		if got, code := impl.SizeNumbers(c.gates, c.n); !slices.Equal(got, c.want) || code != impl.ErrNone {
			t.Errorf("SizeNumbers(%q, %d) = %v, %d, want %v", c.gates, c.n, got, code, c.want)
		}
	}
}

func TestLeastSizeOf(t *testing.T) {
	cases := []struct {
		gates, f string
		want     int64
		code     int64
	}{
		{"", "3:00110011", 0, impl.ErrNone},
		{"", "3:11001100", 0, impl.ErrNotFound},
		{"", "0:0", 0, impl.ErrNotFound},
		{"0", "0:0", 0, impl.ErrNone},
		{"0", "0:1", 0, impl.ErrNotFound},
		{"0!", "0:1", 1, impl.ErrNone},
		{"!&|^?M", "0:1", 0, impl.ErrNotFound},
		{"&", "1:01", 0, impl.ErrNone},
		{"^", "1:00", 1, impl.ErrNone},
		{"^", "1:11", 0, impl.ErrNotFound},
		{"&|!", "2:0110", 4, impl.ErrNone},
		{"&!", "2:0110", 7, impl.ErrNone},
		{"?", "2:0001", 1, impl.ErrNone},
		{"?", "2:0110", 0, impl.ErrNotFound},
		{"?!", "2:0110", 2, impl.ErrNone},
		{"&|", "3:00010111", 4, impl.ErrNone},
		{"M&|", "3:00010111", 1, impl.ErrNone},
		{"01&|", "3:01101001", 0, impl.ErrNotFound},
		{"^", "3:01101001", 2, impl.ErrNone},
		{"^1", "3:10010110", 3, impl.ErrNone},
	}
	for _, c := range cases {
		wantAnswer(t, "LeastSizeOf "+c.gates, parsed(t, c.f), c.want, c.code)(impl.LeastSizeOf(c.gates, parsed(t, c.f)))
	}
}

func TestTheOrderOfGatesDoesNotMatter(t *testing.T) {
	texts := []string{allGates, "M?^|&!10", "&!1M?0|^"}
	for n := range int64(4) {
		want, _ := impl.SizeNumbers(texts[0], n)
		for _, text := range texts {
			if got, code := impl.SizeNumbers(text, n); !slices.Equal(got, want) || code != impl.ErrNone {
				t.Errorf("SizeNumbers(%q, %d) = %v, %d, want %v", text, n, got, code, want)
			}
		}
	}
}

// gatesIn has the bytes of a formula that are gates or constants, each of them once.
func gatesIn(text string) string {
	gates := ""
	for i := range len(allGates) {
		if gate := allGates[i : i+1]; strings.Contains(text, gate) {
			gates += gate
		}
	}
	return gates
}

func TestSizesAreAtLeastTheLeastOnes(t *testing.T) {
	attained := 0
	for _, text := range slices.Concat(drawnFormulas(60, 3, "abc01"), drawnFormulas(12, 40, "abc"), drawnFormulas(9, 40, "ab0")) {
		size, _ := impl.SizeOfFormula(text)
		for n := leastArity(text); n <= 3; n++ {
			f, _ := impl.FuncOfFormula(n, text)
			own, a := impl.LeastSizeOf(gatesIn(text), f)
			all, b := impl.LeastSizeOf(allGates, f)
			if all > own || own > size || a != impl.ErrNone || b != impl.ErrNone {
				t.Errorf("%q has the size %d; the least one of %v is %d, %d, and %d, %d of all gates", text, size, f, own, a, all, b)
			}
			if own == size {
				attained++
			}
		}
	}
	if attained < 200 {
		t.Errorf("only %d formulas have the least size", attained)
	}
}

func TestSizeNumbersOfCompleteChoices(t *testing.T) {
	for _, choice := range choicesOf(allGates) {
		list := funcsOfGates(choice)
		complete, _ := impl.IsComplete(list)
		for n := int64(1); n <= 3; n++ {
			numbers, code := impl.SizeNumbers(choice, n)
			if all := sumOf(numbers) == 1<<(1<<n); n > 1 && all != complete || complete && !all || code != impl.ErrNone {
				t.Errorf("SizeNumbers(%q, %d) = %v, %d, but IsComplete = %v", choice, n, numbers, code, complete)
			}
		}
		numbers, _ := impl.SizeNumbers(choice, 2)
		if count, code := impl.CountGenerated(list, 2); count != sumOf(numbers) || code != impl.ErrNone {
			t.Errorf("SizeNumbers(%q, 2) = %v, but CountGenerated = %d, %d", choice, numbers, count, code)
		}
	}
}

func funcsOfGates(choice string) []impl.Func {
	gateNames := map[rune]string{'0': "zero", '1': "one", '!': "not", '&': "and", '|': "or", '^': "xor", '?': "if", 'M': "majority"}
	var list []impl.Func
	for _, gate := range choice {
		f, _ := impl.NamedFunc(gateNames[gate])
		list = append(list, f)
	}
	return list
}

// wantNoSizes checks both functions with a choice of gates for a code, and zero values beside it.
func wantNoSizes(t *testing.T, gates string, f impl.Func, want int64) {
	t.Helper()
	if size, code := impl.LeastSizeOf(gates, f); size != 0 || code != want {
		t.Errorf("LeastSizeOf(%.70q, %v) = %d, %d, want the code %d", gates, f, size, code, want)
	}
}

func wantNoNumbers(t *testing.T, gates string, n int64, want int64) {
	t.Helper()
	if numbers, code := impl.SizeNumbers(gates, n); len(numbers) != 0 || code != want {
		t.Errorf("SizeNumbers(%.70q, %d) = %v, %d, want the code %d", gates, n, numbers, code, want)
	}
}

func TestTextsThatAreNoChoices(t *testing.T) {
	texts := []string{"a", "d", "e", " ", "2", "m", "&a", "b|", "& |", "!\n", "\x00", "\xff", "é", "&é", allGates + "e", "a" + allGates, allGates + "!", allGates + allGates}
	for i := range len(allGates) {
		gate := allGates[i : i+1]
		texts = append(texts, gate+gate, allGates+gate, gate+allGates, gate+"!^"[:1+i%2]+gate, strings.Repeat(gate, 1<<20))
	}
	for _, text := range texts {
		for _, f := range append(brokenFuncs(), impl.Func{}, impl.Func{Arity: 3, Bits: 170}, impl.Func{Arity: 4}) {
			wantNoSizes(t, text, f, impl.ErrSyntax)
		}
		for _, n := range extremes {
			wantNoNumbers(t, text, n, impl.ErrSyntax)
		}
	}
}

func TestChoicesOfAnyByte(t *testing.T) {
	for b := range 256 {
		symbol := string([]byte{byte(b)})
		is := strings.Contains(allGates, symbol)
		for _, text := range []string{symbol, "&" + symbol, symbol + "0", "M" + symbol + "?"} {
			want := int64(impl.ErrSyntax)
			if is && strings.Count(text, symbol) == 1 {
				want = impl.ErrNone
			}
			_, a := impl.SizeNumbers(text, 1)
			_, b := impl.LeastSizeOf(text, impl.Func{Arity: 1, Bits: 2})
			if a != want || b != want {
				t.Errorf("%q as a choice of gates: codes %d, %d, want %d", text, a, b, want)
			}
		}
	}
}

func TestLeastSizeErrors(t *testing.T) {
	for _, gates := range []string{"", "01", "&", allGates} {
		for _, broken := range brokenFuncs() {
			wantNoSizes(t, gates, broken, impl.ErrInvalid)
		}
		for _, text := range []string{"4:0000000000000000", "4:0101010101010101", "4:0110100110010110"} {
			wantNoSizes(t, gates, parsed(t, text), impl.ErrRange)
		}
		for _, n := range extremes {
			if n < 0 || n > 3 {
				wantNoNumbers(t, gates, n, impl.ErrRange)
			} else if _, code := impl.SizeNumbers(gates, n); code != impl.ErrNone {
				t.Errorf("SizeNumbers(%q, %d): code %d", gates, n, code)
			}
		}
	}
}

// tellFormula returns all that the functions of the chapter tell of a text, also as a choice of gates.
func tellFormula(text string, list []string) string {
	f, a := impl.FuncOfFormula(3, text)
	size, b := impl.SizeOfFormula(text)
	depth, c := impl.DepthOfFormula(text)
	variables, d := impl.VariablesOfFormula(text)
	dual, e := impl.DualFormula(text)
	put, g := impl.PutFormulas(text, list)
	parts, h := impl.PartsOfFormula(text)
	least, i := impl.LeastSizeOf(gatesIn(text), f)
	numbers, j := impl.SizeNumbers(gatesIn(text), 2)
	wrong, k := impl.SizeNumbers(text, 2)
	return fmt.Sprint(f, a, size, b, depth, c, variables, d, dual, e, put, g, parts, h, least, i, numbers, j, wrong, k)
}

func TestListsOfFormulasStayAsTheyAre(t *testing.T) {
	whole := []string{"|ab", "0", "!c", "d", "e", "&a", ""}
	kept := slices.Clone(whole)
	for length := range len(whole) + 1 {
		for _, text := range []string{"Mabc", "?d&ab0", "&a"} {
			impl.PutFormulas(text, whole[:length])
			if !slices.Equal(whole, kept) {
				t.Fatalf("PutFormulas(%q, %q) made it %q", text, kept[:length], whole)
			}
		}
	}
}

// TestFormulasAtOnce has calls that go on at the same time, and each of them more than once.
func TestFormulasAtOnce(t *testing.T) {
	list := []string{"|ab", "0", "!c", "d"}
	var calls sync.WaitGroup
	for _, text := range append(drawnFormulas(24, 2, "abc01"), "", "&", "d", "aa") {
		want := tellFormula(text, list)
		for range 4 {
			calls.Go(func() {
				if got := tellFormula(text, list); got != want {
					t.Errorf("of %q: %s, and at another time %s", text, got, want)
				}
			})
		}
	}
	calls.Wait()
}

func TestResultsOfFormulasAreNewMemory(t *testing.T) {
	list := []string{"|ab", "0", "!c", "d"}
	text := "?a&b0^cb"
	want := tellFormula(text, list)
	for range 2 {
		variables, _ := impl.VariablesOfFormula(text)
		spoil(variables)
		parts, _ := impl.PartsOfFormula(text)
		clear(parts[:cap(parts)])
		numbers, _ := impl.SizeNumbers(gatesIn(text), 2)
		spoil(numbers)
	}
	if got := tellFormula(text, list); got != want {
		t.Errorf("after a change of the last results: %s, want %s", got, want)
	}
}
