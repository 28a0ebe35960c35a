package impl

import (
	"iter"
	"math/bits"
	"strings"
)

const (
	ErrNone = iota
	ErrInvalid
	ErrRange
	ErrLimit
	ErrNotFound
	ErrState
	ErrSyntax
)
const MaxArity = 4

const maxRows = 1 << MaxArity

type Func struct {
	Arity int64
	Bits  int64
}

// rowTable has a place for each row of the greatest arity, so that lists of values of all arities
// are of one type; the places behind the last row of a lesser arity are 0.
type rowTable [maxRows]int64

// IsFunc reports whether f is a function.
func IsFunc(f Func) bool {
	return isArity(f.Arity) && f.Bits >= 0 && f.Bits>>rowCount(f.Arity) == 0
}

// FuncOf returns the function of the Arity n, in 0..MaxArity, with 2^n values, each 0 or 1, by
// rows, and ErrNone.
func FuncOf(n int64, values []int64) (Func, int64) {
	if !isArity(n) || int64(len(values)) != rowCount(n) || !areDigits(values) {
		return Func{}, ErrRange
	}
	table := tableOf(values)
	return funcByRows(n, func(row int64) int64 { return table[row] }), ErrNone
}

// ValueAt returns the value of f at n arguments, each 0 or 1, and ErrNone.
func ValueAt(f Func, arguments []int64) (int64, int64) {
	if !IsFunc(f) {
		return 0, ErrInvalid
	}
	if int64(len(arguments)) != f.Arity || !areDigits(arguments) {
		return 0, ErrRange
	}
	row := rowWith(f.Arity, func(i int64) int64 { return arguments[i] })
	return valueInRow(f, row), ErrNone
}

// ProjectionOf returns the projection of n, in 1..MaxArity, and i, in 0..n - 1, and ErrNone.
func ProjectionOf(n int64, i int64) (Func, int64) {
	if !isArity(n) || !isVariable(n, i) {
		return Func{}, ErrRange
	}
	return funcByRows(n, func(row int64) int64 { return digitOf(row, i) }), ErrNone
}

// ConstantOf returns the constant of n, in 0..MaxArity, and v, 0 or 1, and ErrNone.
func ConstantOf(n int64, v int64) (Func, int64) {
	if !isArity(n) || !isDigit(v) {
		return Func{}, ErrRange
	}
	return funcByRows(n, func(int64) int64 { return v }), ErrNone
}

// PutFuncs returns the function that is made by putting the functions of a list into f, of an Arity
// of at least 1, and ErrNone. Errors: ErrRange if f has the Arity 0, there are not as many
// functions as its Arity, or these have not the same Arity.
func PutFuncs(f Func, list []Func) (Func, int64) {
	if !IsFunc(f) || !areFuncs(list) {
		return Func{}, ErrInvalid
	}
	if f.Arity == 0 || int64(len(list)) != f.Arity || !haveOneArity(list) {
		return Func{}, ErrRange
	}
	return funcByRows(list[0].Arity, func(row int64) int64 {
		return valueInRow(f, rowWith(f.Arity, func(i int64) int64 { return valueInRow(list[i], row) }))
	}), ErrNone
}

// EssentialOf returns the essential variables, ascending, and ErrNone.
func EssentialOf(f Func) ([]int64, int64) {
	if !IsFunc(f) {
		return nil, ErrInvalid
	}
	var essential []int64
	for i := range f.Arity {
		if isEssential(f, i) {
			essential = append(essential, i)
		}
	}
	return essential, ErrNone
}

// PermuteFunc returns f with its variables permuted by p, and ErrNone.
func PermuteFunc(f Func, p []int64) (Func, int64) {
	if !IsFunc(f) {
		return Func{}, ErrInvalid
	}
	if !isPermutation(f.Arity, p) {
		return Func{}, ErrRange
	}
	return funcByRows(f.Arity, func(row int64) int64 {
		return valueInRow(f, rowWith(f.Arity, func(i int64) int64 { return digitOf(row, p[i]) }))
	}), ErrNone
}

// FixVariable returns f with the variable i, in 0..n - 1, fixed to v, 0 or 1, and ErrNone.
func FixVariable(f Func, i int64, v int64) (Func, int64) {
	if !IsFunc(f) {
		return Func{}, ErrInvalid
	}
	if !isVariable(f.Arity, i) || !isDigit(v) {
		return Func{}, ErrRange
	}
	return fixed(f, i, v), ErrNone
}

// WidenFunc returns f widened, and ErrNone. Errors: ErrLimit if its Arity is MaxArity.
func WidenFunc(f Func) (Func, int64) {
	if !IsFunc(f) {
		return Func{}, ErrInvalid
	}
	if f.Arity == MaxArity {
		return Func{}, ErrLimit
	}
	return funcByRows(f.Arity+1, func(row int64) int64 {
		return valueInRow(f, row&lastRow(f.Arity))
	}), ErrNone
}

// CoreOf returns the core, and ErrNone.
func CoreOf(f Func) (Func, int64) {
	if !IsFunc(f) {
		return Func{}, ErrInvalid
	}
	core := f
	// Downwards, so that the numbers of the variables still to be looked at do not change.
	for i := f.Arity - 1; i >= 0; i-- {
		if !isEssential(core, i) {
			core = fixed(core, i, 0)
		}
	}
	return core, ErrNone
}

// NegateFunc returns the negation, and ErrNone.
func NegateFunc(f Func) (Func, int64) {
	if !IsFunc(f) {
		return Func{}, ErrInvalid
	}
	return funcByRows(f.Arity, func(row int64) int64 { return 1 - valueInRow(f, row) }), ErrNone
}

// DualOf returns the dual, and ErrNone.
func DualOf(f Func) (Func, int64) {
	if !IsFunc(f) {
		return Func{}, ErrInvalid
	}
	return funcByRows(f.Arity, func(row int64) int64 {
		return 1 - valueInRow(f, lastRow(f.Arity)-row)
	}), ErrNone
}

// WeightOf returns the weight, and ErrNone.
func WeightOf(f Func) (int64, int64) {
	if !IsFunc(f) {
		return 0, ErrInvalid
	}
	return int64(bits.OnesCount64(uint64(f.Bits))), ErrNone
}

// NamedFunc returns the function with a name, and ErrNone. Errors: ErrNotFound if there is none.
func NamedFunc(name string) (Func, int64) {
	f, found := funcsByName()[name]
	if !found {
		return Func{}, ErrNotFound
	}
	return f, ErrNone
}

// NameOf returns the name of f, and ErrNone. Errors: ErrNotFound if there is none.
func NameOf(f Func) (string, int64) {
	if !IsFunc(f) {
		return "", ErrInvalid
	}
	name, found := namesByFunc()[f]
	if !found {
		return "", ErrNotFound
	}
	return name, ErrNone
}

// FuncText returns the text of f, and ErrNone.
func FuncText(f Func) (string, int64) {
	if !IsFunc(f) {
		return "", ErrInvalid
	}
	text := []byte{digitByte(f.Arity), ':'}
	for row := range rowsOf(f.Arity) {
		text = append(text, digitByte(valueInRow(f, row)))
	}
	return string(text), ErrNone
}

// ParseFunc returns the function with a text, and ErrNone. Errors: ErrSyntax if there is none. (No
// other errors are returned.)
func ParseFunc(text string) (Func, int64) {
	arity, digits, found := strings.Cut(text, ":")
	if !found || len(arity) != 1 || len(digits) > maxRows {
		return Func{}, ErrSyntax
	}
	values := make([]int64, len(digits))
	for i := range values {
		values[i] = digitValue(digits[i])
	}
	// Bytes that are no digits become numbers that FuncOf refuses.
	f, code := FuncOf(digitValue(arity[0]), values)
	if code != ErrNone {
		return Func{}, ErrSyntax
	}
	return f, ErrNone
}

func isArity(n int64) bool { return n >= 0 && n <= MaxArity }

func isVariable(n int64, i int64) bool { return i >= 0 && i < n }

func isRow(n int64, row int64) bool { return row >= 0 && row <= lastRow(n) }

func isDigit(v int64) bool { return v == 0 || v == 1 }

func areDigits(values []int64) bool {
	for _, v := range values {
		if !isDigit(v) {
			return false
		}
	}
	return true
}

func areFuncs(list []Func) bool {
	for _, f := range list {
		if !IsFunc(f) {
			return false
		}
	}
	return true
}

func haveOneArity(list []Func) bool {
	for _, f := range list {
		if f.Arity != list[0].Arity {
			return false
		}
	}
	return true
}

func isPermutation(n int64, p []int64) bool {
	return int64(len(p)) == n && areDifferentBelow(n, p)
}

// areDifferentBelow reports whether the numbers of a list are in 0..n - 1, and none is there twice.
func areDifferentBelow(n int64, list []int64) bool {
	seen := make([]bool, n)
	for _, i := range list {
		if !isVariable(n, i) || seen[i] {
			return false
		}
		seen[i] = true
	}
	return true
}

func isEssential(f Func, i int64) bool { return fixed(f, i, 0) != fixed(f, i, 1) }

func fixed(f Func, i int64, v int64) Func {
	return funcByRows(f.Arity-1, func(row int64) int64 {
		below := row & lastRow(i)
		above := row - below
		return valueInRow(f, above<<1|v<<i|below)
	})
}

func rowCount(n int64) int64 { return 1 << n }

func lastRow(n int64) int64 { return rowCount(n) - 1 }

func rowsOf(n int64) iter.Seq[int64] {
	return func(yield func(int64) bool) {
		for row := range rowCount(n) {
			if !yield(row) {
				return
			}
		}
	}
}

func funcByRows(n int64, valueIn func(row int64) int64) Func {
	f := Func{Arity: n}
	for row := range rowsOf(n) {
		f.Bits |= valueIn(row) << row
	}
	return f
}

func rowWith(n int64, argument func(i int64) int64) int64 {
	row := int64(0)
	for i := range n {
		row |= argument(i) << i
	}
	return row
}

func tableOf(values []int64) rowTable {
	places := make([]int64, maxRows)
	copy(places, values)
	return rowTable(places)
}

func digitOf(number int64, i int64) int64 { return number >> i & 1 }

func valueInRow(f Func, row int64) int64 { return digitOf(f.Bits, row) }

func digitIf(holds bool) int64 {
	if holds {
		return 1
	}
	return 0
}

func digitByte(v int64) byte { return byte('0' + v) }

func digitValue(b byte) int64 { return int64(b) - '0' }

func funcsByName() map[string]Func {
	return map[string]Func{
		"zero":     {0, 0b0},
		"one":      {0, 0b1},
		"id":       {1, 0b10},
		"not":      {1, 0b01},
		"and":      {2, 0b1000},
		"or":       {2, 0b1110},
		"xor":      {2, 0b0110},
		"nand":     {2, 0b0111},
		"nor":      {2, 0b0001},
		"equal":    {2, 0b1001},
		"imply":    {2, 0b1101},
		"majority": {3, 0b11101000},
		"minority": {3, 0b10010110},
		"if":       {3, 0b11011000},
	}
}

func namesByFunc() map[Func]string {
	names := map[Func]string{}
	for name, f := range funcsByName() {
		names[f] = name
	}
	return names
}
