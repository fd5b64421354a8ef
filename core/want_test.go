package core_test

import (
	"fmt"
	"math"
	"reflect"
	"regexp"
	"slices"
	"strconv"
	"strings"
	"testing"

	"proctor/api"
	"proctor/core"
	"proctor/value"
)

// The words, as chapter 7 has them, and how a name is spelt, said anew.
var (
	words = strings.Split("accept, also, and, bool, do, event, exists, false, forall, free, if, int, next, not, on, or, qea, skip, start, string, to, true", ", ")
	spelt = regexp.MustCompile(`\A[A-Za-z_][A-Za-z0-9_]{0,31}\z`)
)

// Numbers of operators, by how many expressions they have, and numbers that are no operator's.
var (
	leafOps = []int{1, 2, 3}
	oneOps  = []int{4, 5}
	twoOps  = []int{6, 7, 8, 9, 10, 11, 12, 13, 14, 15, 16}
	noOps   = []int{math.MinInt, -17, -4, -1, 0, 17, 18, 19, 260, math.MaxInt}
)

// Of which kind an operator's answer is, by the kind of what it is for, said anew.
var kindsOf = map[int]map[int]int{
	4: {3: 3}, 5: {1: 1}, 6: {3: 3}, 7: {3: 3}, 8: {1: 1, 2: 2}, 9: {1: 1}, 10: {1: 1}, 11: {1: 1}, 12: {1: 1},
	13: {1: 3, 2: 3, 3: 3}, 14: {1: 3, 2: 3, 3: 3}, 15: {1: 3, 2: 3}, 16: {1: 3, 2: 3},
}

// Texts that are names, and that are none.
var (
	goodNames = []string{"a9", "Z", "_x", "__", "If", "a_0", strings.Repeat("n", 32)}
	badNames  = []string{"", "_", "if", "qea", "to", "0", "9x", "a b", "a-b", " a", "a\n", "\x80", "a\x00", "\u00e9", strings.Repeat("n", 33)}
)

// Values that may be, and that may not be.
var (
	goodValues = []api.Value{
		{Kind: 1}, {Kind: 1, Int: -5}, {Kind: 1, Int: math.MinInt64}, {Kind: 1, Int: math.MaxInt64},
		{Kind: 2}, {Kind: 2, Str: "if"}, {Kind: 2, Str: strings.Repeat("x", 4096)}, {Kind: 3}, {Kind: 3, Bool: true},
	}
	badValues = []api.Value{
		{}, {Kind: -1}, {Kind: 4}, {Int: 5}, {Str: "a"}, {Bool: true},
		{Kind: 1, Str: "a"}, {Kind: 1, Bool: true}, {Kind: 2, Int: 1}, {Kind: 2, Bool: true}, {Kind: 3, Int: 1}, {Kind: 3, Str: "a"},
		{Kind: 2, Str: strings.Repeat("x", 4097)},
	}
)

// Numbers that are no place in any list of the tests.
var noPlaces = []int{math.MinInt, -2, -1, 300, math.MaxInt}

// brief is how a thing is shown, cut where it is too long to be read.
func brief(x any) string {
	s := fmt.Sprintf("%+v", x)
	return strings.ToValidUTF8(s[:min(len(s), 2000)], "?")
}

// isName tells anew whether a text is a name.
func isName(s string) bool { return spelt.MatchString(s) && s != "_" && !slices.Contains(words, s) }

// isKind tells anew whether a number is a kind's.
func isKind(kind int) bool { return kind >= 1 && kind <= 3 }

// isValue tells anew whether a value may be.
func isValue(v api.Value) bool {
	switch {
	case v.Kind == 1:
		return v.Str == "" && !v.Bool
	case v.Kind == 2:
		return v.Int == 0 && !v.Bool && len(v.Str) <= 4096
	}
	return v.Kind == 3 && v.Int == 0 && v.Str == ""
}

// twice tells whether a text stands in a list more than once.
func twice(l []string) bool {
	sorted := slices.Sorted(slices.Values(l))
	return len(slices.Compact(sorted)) < len(l)
}

// schemaIsWrong tells anew whether something is wrong with a schema.
func schemaIsWrong(l []api.Decl) bool {
	var names []string
	for _, d := range l {
		names = append(names, d.Name)
		for _, kind := range d.Types {
			if !isKind(kind) {
				return true
			}
		}
		if !isName(d.Name) || len(d.Types) > 8 {
			return true
		}
	}
	return len(l) > 32 || twice(names)
}

// argIsRight tells anew whether an argument is as its Kind asks for, and of a kind.
func argIsRight(q api.Qea, a api.Arg, kind int) bool {
	switch {
	case a.Kind == 1:
		return a.N == 0 && isValue(a.Value) && a.Value.Kind == kind
	case a.Kind == 2:
		return a.Value == (api.Value{}) && a.N >= 0 && a.N < len(q.Quants) && q.Quants[a.N].Type == kind
	case a.Kind == 3:
		return a.Value == (api.Value{}) && a.N >= 0 && a.N < len(q.Frees) && q.Frees[a.N].Init.Kind == kind
	}
	return a == api.Arg{Kind: 4}
}

// symbolIsRight tells anew whether a symbol is as its declaration asks for.
func symbolIsRight(q api.Qea, s api.Symbol) bool {
	if s.Event < 0 || s.Event >= len(q.Decls) || len(s.Args) != len(q.Decls[s.Event].Types) {
		return false
	}
	for i, a := range s.Args {
		if !argIsRight(q, a, q.Decls[s.Event].Types[i]) {
			return false
		}
	}
	return true
}

// standsIn tells anew whether a quantified variable stands in a symbol.
func standsIn(s api.Symbol, v int) bool {
	for _, a := range s.Args {
		if v >= 0 && a.Kind == 2 && a.N == v {
			return true
		}
	}
	return false
}

// shape is what is said anew of the nodes that end at a place: how many are of the last one's expression, how deep it is, and of which kind.
type shape struct{ size, depth, kind int }

// shapeOf says anew, straight from the chapter's words, what stands at a place, however deep, and whether or not it has a kind; all zero, if nothing does.
func shapeOf(q api.Qea, at int) shape {
	if at < 0 || at >= len(q.Nodes) {
		return shape{}
	}
	n, none := q.Nodes[at], api.Value{}
	switch {
	case n.Op == 1 && n.A == 0 && n.B == 0 && isValue(n.Value):
		return shape{1, 1, n.Value.Kind}
	case n.Op == 2 && n.B == 0 && n.Value == none && n.A >= 0 && n.A < len(q.Quants) && isKind(q.Quants[n.A].Type):
		return shape{1, 1, q.Quants[n.A].Type}
	case n.Op == 3 && n.B == 0 && n.Value == none && n.A >= 0 && n.A < len(q.Frees) && isValue(q.Frees[n.A].Init):
		return shape{1, 1, q.Frees[n.A].Init.Kind}
	case slices.Contains(oneOps, n.Op) && n.A == at-1 && n.B == 0 && n.Value == none:
		if a := shapeOf(q, at-1); a.size > 0 {
			return shape{a.size + 1, a.depth + 1, kindsOf[n.Op][a.kind]}
		}
	case slices.Contains(twoOps, n.Op) && n.B == at-1 && n.Value == none:
		b := shapeOf(q, at-1)
		if b.size == 0 {
			return shape{}
		}
		if a := shapeOf(q, at-1-b.size); a.size > 0 && n.A == at-1-b.size {
			made := shape{a.size + b.size + 1, max(a.depth, b.depth) + 1, 0}
			if a.kind == b.kind {
				made.kind = kindsOf[n.Op][a.kind]
			}
			return made
		}
	}
	return shape{}
}

// kindAt says anew of which kind the expression at a place is; 0, if there is none.
func kindAt(q api.Qea, at int) int {
	if x := shapeOf(q, at); x.depth <= 64 {
		return x.kind
	}
	return 0
}

// isPlain tells anew whether an automaton has no free variables, and no guards.
func isPlain(q api.Qea) bool {
	for _, x := range q.Trans {
		if x.Guard != -1 {
			return false
		}
	}
	return len(q.Frees) == 0
}

// broken are the conditions of the chapter that an automaton breaks, each by a name of its own, rising.
func broken(q api.Qea) []string {
	var l []string
	breaks := func(what string, so bool) {
		if so && !slices.Contains(l, what) {
			l = append(l, what)
		}
	}
	brokenNames(q, breaks)
	breaks("schema", schemaIsWrong(q.Decls))
	breaks("many quants", len(q.Quants) > 8)
	breaks("many frees", len(q.Frees) > 16)
	breaks("no state", len(q.States) == 0)
	breaks("many states", len(q.States) > 32)
	breaks("many symbols", len(q.Symbols) > 64)
	breaks("many nodes", len(q.Nodes) > 2048)
	breaks("many transitions", len(q.Trans) > 256)
	breaks("start", q.Start < 0 || q.Start >= max(len(q.States), 1))
	brokenSymbols(q, breaks)
	brokenTrans(q, breaks)
	slices.Sort(l)
	return l
}

// brokenNames tells the conditions of names, kinds and values that an automaton breaks.
func brokenNames(q api.Qea, breaks func(what string, so bool)) {
	var variables, states []string
	breaks("name", !isName(q.Name))
	for _, x := range q.Quants {
		variables = append(variables, x.Name)
		breaks("quant's name", !isName(x.Name))
		breaks("quant's kind", !isKind(x.Type))
	}
	for _, x := range q.Frees {
		variables = append(variables, x.Name)
		breaks("free's name", !isName(x.Name))
		breaks("free's value", !isValue(x.Init))
	}
	for _, x := range q.States {
		states = append(states, x.Name)
		breaks("state's name", !isName(x.Name))
	}
	breaks("variables twice", twice(variables))
	breaks("states twice", twice(states))
}

// brokenSymbols tells the conditions of symbols that an automaton breaks.
func brokenSymbols(q api.Qea, breaks func(what string, so bool)) {
	var first []int // the transition that comes to a symbol first; -1 of a symbol of none
	for i, s := range q.Symbols {
		breaks("symbol", !symbolIsRight(q, s))
		for _, ahead := range q.Symbols[:i] {
			breaks("symbols twice", s.Event == ahead.Event && slices.Equal(s.Args, ahead.Args))
		}
		first = append(first, slices.IndexFunc(q.Trans, func(x api.Trans) bool { return x.Symbol == i }))
	}
	breaks("order", !slices.IsSorted(first))
	for v := range q.Quants {
		breaks("stands", !slices.ContainsFunc(q.Symbols, func(s api.Symbol) bool { return standsIn(s, v) }))
	}
}

// brokenTrans tells the conditions of transitions, and of their nodes, that an automaton breaks.
func brokenTrans(q api.Qea, breaks func(what string, so bool)) {
	end := 0
	comes := func(with, root int) int {
		x := shapeOf(q, root)
		for i := range x.size {
			n := q.Nodes[root-i]
			breaks("stands there", n.Op == 2 && with >= 0 && with < len(q.Symbols) && !standsIn(q.Symbols[with], n.A))
		}
		breaks("row", x.size == 0 || root != end+x.size-1)
		breaks("expression's kind", x.size > 0 && x.kind == 0)
		breaks("depth", x.depth > 64)
		end += x.size
		return x.kind
	}
	for _, x := range q.Trans {
		breaks("from", x.From < 0 || x.From >= len(q.States))
		breaks("to", x.To < 0 || x.To >= len(q.States))
		breaks("with", x.Symbol < 0 || x.Symbol >= len(q.Symbols))
		if x.Guard != -1 {
			kind := comes(x.Symbol, x.Guard)
			breaks("guard", kind == 1 || kind == 2)
		}
		var set []int
		for _, s := range x.Sets {
			kind := comes(x.Symbol, s.Expr)
			breaks("set of none", s.Free < 0 || s.Free >= len(q.Frees))
			breaks("set twice", slices.Contains(set, s.Free))
			breaks("set's kind", s.Free >= 0 && s.Free < len(q.Frees) && kind != 0 && kind != q.Frees[s.Free].Init.Kind)
			set = append(set, s.Free)
		}
	}
	breaks("row", end != len(q.Nodes))
}

// part is a part of an automaton, where it is, and itself.
type part struct {
	path string
	v    reflect.Value
}

// parts are all parts of an automaton that are no structs: lists, and what is in them, and fields.
func parts(q *api.Qea) []part {
	var l []part
	var walk func(path string, v reflect.Value)
	walk = func(path string, v reflect.Value) {
		switch v.Kind() {
		case reflect.Struct:
			for i := range v.NumField() {
				walk(path+"."+v.Type().Field(i).Name, v.Field(i))
			}
		case reflect.Slice:
			l = append(l, part{path, v})
			for i := range v.Len() {
				walk(path+"["+strconv.Itoa(i)+"]", v.Index(i))
			}
		default:
			l = append(l, part{path, v})
		}
	}
	walk("", reflect.ValueOf(q).Elem())
	return l
}

// fields are the parts of an automaton that are no lists.
func fields(q *api.Qea) []part {
	return slices.DeleteFunc(parts(q), func(p part) bool { return p.v.Kind() == reflect.Slice })
}

// lists are the lists of an automaton.
func lists(q *api.Qea) []part {
	return slices.DeleteFunc(parts(q), func(p part) bool { return p.v.Kind() != reflect.Slice })
}

// change makes of a field's value another one.
func change(v reflect.Value) {
	switch v.Kind() {
	case reflect.Int, reflect.Int64:
		v.SetInt(v.Int() + 1)
	case reflect.String:
		v.SetString(v.String() + "x")
	case reflect.Bool:
		v.SetBool(!v.Bool())
	}
}

// clone is an automaton of new memory, whose empty lists are nil.
func clone(q api.Qea) api.Qea {
	var c api.Qea
	lay(reflect.ValueOf(&c).Elem(), reflect.ValueOf(q))
	return c
}

// lay makes of a part the same as another one, of new memory.
func lay(v, of reflect.Value) {
	switch {
	case v.Kind() == reflect.Struct:
		for i := range v.NumField() {
			lay(v.Field(i), of.Field(i))
		}
	case v.Kind() != reflect.Slice:
		v.Set(of)
	case of.Len() > 0:
		v.Set(reflect.MakeSlice(v.Type(), of.Len(), of.Len()))
		for i := range v.Len() {
			lay(v.Index(i), of.Index(i))
		}
	}
}

// equal tells anew whether two automata are the same.
func equal(a, b api.Qea) bool { return equalParts(reflect.ValueOf(a), reflect.ValueOf(b)) }

// equalParts tells whether two parts of automata are the same.
func equalParts(a, b reflect.Value) bool {
	switch a.Kind() {
	case reflect.Struct:
		for i := range a.NumField() {
			if !equalParts(a.Field(i), b.Field(i)) {
				return false
			}
		}
		return true
	case reflect.Slice:
		same := a.Len() == b.Len()
		for i := 0; same && i < a.Len(); i++ {
			same = equalParts(a.Index(i), b.Index(i))
		}
		return same
	}
	return a.Equal(b)
}

// check holds all that is told of an automaton against the chapter's words, said anew, and against the conditions that it is said to break; it stays as it was.
func check(t *testing.T, q api.Qea, want ...string) {
	t.Helper()
	slices.Sort(want)
	if got := broken(q); !slices.Equal(got, want) {
		t.Fatalf("%s breaks %q, not %q: is the test right?", brief(q), got, want)
	}
	was := clone(q)
	if core.Right(q) != (len(want) == 0) {
		t.Fatalf("Right(%s) = %v: it breaks %q", brief(q), len(want) > 0, want)
	}
	for at := -1; at <= len(q.Nodes)+1; at++ {
		if got := core.Kind(q, at); got != kindAt(q, at) {
			t.Fatalf("Kind(%s, %d) = %d, not %d", brief(q), at, got, kindAt(q, at))
		}
	}
	for _, s := range q.Symbols {
		for v := -1; v <= 9; v++ {
			if core.Stands(s, v) != standsIn(s, v) {
				t.Fatalf("Stands(%s, %d) = %v", brief(s), v, !standsIn(s, v))
			}
		}
		if got := core.Symbol(q, s); len(want) == 0 && got != symbolText(q, s) {
			t.Fatalf("Symbol(%s, %s) = %q", brief(q), brief(s), got)
		}
	}
	if core.Plain(q) != isPlain(q) {
		t.Fatalf("Plain(%s) = %v", brief(q), !isPlain(q))
	}
	if !core.Same(q, q) || !core.Same(q, was) || !core.Same(was, q) || core.Same(q, api.Qea{}) != equal(q, api.Qea{}) {
		t.Fatalf("Same of %s", brief(q))
	}
	if !equal(q, was) {
		t.Fatalf("%s was changed to %s", brief(was), brief(q))
	}
}

// checkChanged holds what is told of an automaton that was changed.
func checkChanged(t *testing.T, q api.Qea, change func(q *api.Qea), want ...string) {
	t.Helper()
	changed := clone(q)
	change(&changed)
	check(t, changed, want...)
}

// symbolText says anew what a symbol's text is.
func symbolText(q api.Qea, s api.Symbol) string {
	text := q.Decls[s.Event].Name + "("
	for i, a := range s.Args {
		if i > 0 {
			text += ", "
		}
		text += map[int]func() string{
			1: func() string { return value.Text(a.Value) },
			2: func() string { return q.Quants[a.N].Name },
			3: func() string { return q.Frees[a.N].Name },
			4: func() string { return "_" },
		}[a.Kind]()
	}
	return text + ")"
}
