package core_test

import (
	"math"
	"math/rand"
	"reflect"
	"slices"
	"strconv"
	"strings"
	"testing"

	"proctor/api"
	"proctor/core"
	"proctor/value"
)

// nodes are the nodes of an expression.
type nodes = []api.Node

// setting is a free variable, and what it is set to.
type setting struct {
	free int
	to   nodes
}

// constant, number, quant and free are expressions of one node.
func constant(v api.Value) nodes { return nodes{{Op: api.OpConst, Value: v}} }
func number(n int64) nodes       { return constant(value.Int(n)) }
func quant(n int) nodes          { return nodes{{Op: api.OpQuant, A: n}} }
func free(n int) nodes           { return nodes{{Op: api.OpFree, A: n}} }

// behind are an expression's nodes, as they stand behind that many others.
func behind(l nodes, by int) nodes {
	moved := slices.Clone(l)
	for i, n := range moved {
		if slices.Contains(oneOps, n.Op) {
			moved[i].A += by
		}
		if slices.Contains(twoOps, n.Op) {
			moved[i].A, moved[i].B = n.A+by, n.B+by
		}
	}
	return moved
}

// join are expressions joined by an operator that has as many.
func join(op int, l ...nodes) nodes {
	joined, roots := row(l...)
	n := api.Node{Op: op, A: roots[0]}
	if len(roots) == 2 {
		n.B = roots[1]
	}
	return append(joined, n)
}

// row are expressions one behind the other, and their roots.
func row(l ...nodes) (nodes, []int) {
	var joined nodes
	var roots []int
	for _, x := range l {
		joined = append(joined, behind(x, len(joined))...)
		roots = append(roots, len(joined)-1)
	}
	return joined, roots
}

// chain is an expression that is as deep as asked for: of operators with one expression alone, or deeper on the left, or on the right.
func chain(depth int, way string, op int, leaf nodes) nodes {
	l := leaf
	for d := 1; d < depth; d++ {
		switch way {
		case "one":
			l = join(op, l)
		case "left":
			l = join(op, l, leaf)
		case "right":
			l = join(op, leaf, l)
		}
	}
	return l
}

// add adds a transition, with its expressions behind those that are there (guard nil: none).
func add(q *api.Qea, from, symbol, to int, guard nodes, sets ...setting) {
	x := api.Trans{From: from, Symbol: symbol, To: to, Guard: -1}
	lay := func(l nodes) int {
		q.Nodes = append(q.Nodes, behind(l, len(q.Nodes))...)
		return len(q.Nodes) - 1
	}
	if guard != nil {
		x.Guard = lay(guard)
	}
	for _, s := range sets {
		x.Sets = append(x.Sets, api.Set{Free: s.free, Expr: lay(s.to)})
	}
	q.Trans = append(q.Trans, x)
}

// arg, constArg, quantArg and freeArg are arguments of symbols.
func arg(kind int) api.Arg                      { return api.Arg{Kind: kind} }
func constArg(v api.Value) api.Arg              { return api.Arg{Kind: api.IsConst, Value: v} }
func quantArg(n int) api.Arg                    { return api.Arg{Kind: api.IsQuant, N: n} }
func freeArg(n int) api.Arg                     { return api.Arg{Kind: api.IsFree, N: n} }
func symbol(event int, l ...api.Arg) api.Symbol { return api.Symbol{Event: event, Args: l} }

// least is the least automaton there is.
func least() api.Qea {
	return api.Qea{Name: "q", States: []api.State{{Name: "s"}}}
}

// frame is an automaton that has some of each thing but transitions and nodes, all symbols of none.
func frame() api.Qea {
	any := arg(api.IsAny)
	return api.Qea{
		Name:   "door",
		Decls:  []api.Decl{{Name: "open", Types: []int{2, 1}}, {Name: "close", Types: []int{3, 2, 1}}, {Name: "tick"}, {Name: "never", Types: []int{1}}},
		Quants: []api.Quant{{All: true, Name: "x", Type: 2}, {Name: "y", Type: 1}, {All: true, Name: "z", Type: 3}},
		Frees:  []api.Free{{Name: "f", Init: value.Int(-7)}, {Name: "g", Init: value.Str("g")}, {Name: "h", Init: value.Bool(true)}, {Name: "idle", Init: value.Int(0)}},
		States: []api.State{{Name: "s", Accept: true}, {Name: "w", Next: true}, {Name: "u", Next: true, Accept: true}, {Name: "v"}},
		Start:  1,
		Symbols: []api.Symbol{
			symbol(2),
			symbol(1, constArg(value.Bool(true)), constArg(value.Str("a \"k\"")), any),
			symbol(0, quantArg(0), quantArg(1)),
			symbol(1, quantArg(2), quantArg(0), freeArg(0)),
			symbol(0, freeArg(1), any),
			symbol(0, any, quantArg(1)),
			symbol(1, freeArg(2), any, constArg(value.Int(-3))),
		},
	}
}

// full is an automaton that has several of each thing: the first two symbols are of no transition.
func full() api.Qea {
	q := frame()
	text := func(s string) nodes { return constant(value.Str(s)) }
	add(&q, 0, 2, 1, join(15, join(8, free(0), number(2)), quant(1)), setting{0, join(5, free(0))}, setting{1, join(8, text("a"), quant(0))})
	add(&q, 1, 3, 0, nil, setting{2, join(7, join(4, free(2)), quant(2))}, setting{0, join(11, number(6), free(0))})
	add(&q, 1, 4, 1, join(14, free(1), text("x")))
	add(&q, 0, 3, 2, join(6, quant(2), join(13, quant(0), free(1))), setting{1, free(1)})
	add(&q, 2, 2, 3, nil)
	add(&q, 3, 5, 3, join(16, quant(1), number(3)), setting{0, join(12, quant(1), number(2))})
	add(&q, 3, 6, 0, free(2))
	return q
}

// tail is a change that adds a transition, with an expression as its guard, of the frame's symbol of that number; all others are of no transition.
func tail(at int, guard nodes, sets ...setting) func(q *api.Qea) {
	return func(q *api.Qea) {
		*q = frame()
		s := q.Symbols[at]
		q.Symbols = append(slices.Delete(q.Symbols, at, at+1), s)
		add(q, 0, len(q.Symbols)-1, 1, guard, sets...)
	}
}

// 13.1: automata that may be: the least one, one of several of each thing, and others between.
func TestAutomataThatMayBe(t *testing.T) {
	check(t, least())
	check(t, full())
	check(t, frame())
	check(t, api.Qea{}, "name", "no state")
	check(t, api.Qea{Name: "q"}, "no state")
	check(t, api.Qea{States: []api.State{{Name: "s"}}}, "name")
	for _, more := range []func(q *api.Qea){
		func(q *api.Qea) { q.States[0] = api.State{Name: "s", Next: true, Accept: true} },
		func(q *api.Qea) { q.States = append(q.States, api.State{Name: "t"}); q.Start = 1 },
		func(q *api.Qea) { q.Decls = []api.Decl{{Name: "a"}} },
		func(q *api.Qea) { q.Decls = []api.Decl{{Name: "a", Types: []int{1, 2, 3}}, {Name: "b"}} },
		func(q *api.Qea) { q.Frees = []api.Free{{Name: "f", Init: value.Str("")}} },
		func(q *api.Qea) { q.Decls = []api.Decl{{Name: "a"}}; q.Symbols = []api.Symbol{symbol(0)} },
		func(q *api.Qea) {
			q.Decls = []api.Decl{{Name: "a"}}
			q.Symbols = []api.Symbol{symbol(0)}
			add(q, 0, 0, 0, nil)
		},
		func(q *api.Qea) {
			q.Decls = []api.Decl{{Name: "a"}}
			q.Symbols = []api.Symbol{symbol(0)}
			add(q, 0, 0, 0, nil)
			add(q, 0, 0, 0, nil)
		},
		func(q *api.Qea) {
			q.Decls, q.Symbols = []api.Decl{{Name: "a", Types: []int{3}}}, []api.Symbol{symbol(0, quantArg(0))}
			q.Quants = []api.Quant{{Name: "x", Type: 3}}
		},
		func(q *api.Qea) {
			q.Decls, q.Symbols = []api.Decl{{Name: "a", Types: []int{3}}}, []api.Symbol{symbol(0, quantArg(0))}
			q.Quants = []api.Quant{{Name: "x", Type: 3}}
			add(q, 0, 0, 0, quant(0))
		},
		func(q *api.Qea) {
			q.Decls, q.Symbols = []api.Decl{{Name: "a"}}, []api.Symbol{symbol(0)}
			q.Frees = []api.Free{{Name: "f", Init: value.Int(3)}}
			add(q, 0, 0, 0, nil, setting{0, number(4)})
		},
	} {
		checkChanged(t, least(), more)
	}
}

// 13.1: each name in turn.
func TestNames(t *testing.T) {
	count := 0
	whole := full()
	for i, p := range fields(&whole) {
		if p.v.Kind() != reflect.String || !strings.HasSuffix(p.path, "Name") {
			continue
		}
		count++
		what := map[string]string{"": "name", ".Decls": "schema", ".Quants": "quant's name", ".Frees": "free's name", ".States": "state's name"}[p.path[:max(strings.Index(p.path, "["), 0)]]
		for _, s := range goodNames {
			checkChanged(t, whole, func(q *api.Qea) { fields(q)[i].v.SetString(s) })
		}
		for _, s := range badNames {
			checkChanged(t, whole, func(q *api.Qea) { fields(q)[i].v.SetString(s) }, what)
		}
	}
	if count != 16 {
		t.Fatalf("%d names", count)
	}
}

// 13.1: two variables, or two states, of one name, wherever they stand; other things may have one name.
func TestNamesTwice(t *testing.T) {
	whole := full()
	for i := range whole.Quants {
		for k := range whole.Quants[:i] {
			checkChanged(t, whole, func(q *api.Qea) { q.Quants[i].Name = q.Quants[k].Name }, "variables twice")
		}
		for k := range whole.Frees {
			checkChanged(t, whole, func(q *api.Qea) { q.Quants[i].Name = q.Frees[k].Name }, "variables twice")
			checkChanged(t, whole, func(q *api.Qea) { q.Frees[k].Name = q.Quants[i].Name }, "variables twice")
		}
	}
	for i := range whole.Frees {
		for k := range whole.Frees[:i] {
			checkChanged(t, whole, func(q *api.Qea) { q.Frees[i].Name = q.Frees[k].Name }, "variables twice")
		}
	}
	for i := range whole.States {
		for k := range whole.States[:i] {
			checkChanged(t, whole, func(q *api.Qea) { q.States[i].Name = q.States[k].Name }, "states twice")
		}
	}
	checkChanged(t, whole, func(q *api.Qea) {
		q.Name, q.Decls[0].Name, q.Quants[0].Name, q.States[0].Name = "one", "one", "one", "one"
	})
	checkChanged(t, whole, func(q *api.Qea) {
		q.Name, q.Decls[0].Name, q.Frees[0].Name, q.States[0].Name = "one", "one", "one", "one"
	})
	checkChanged(t, whole, func(q *api.Qea) { q.Quants[0].Name = "X"; q.Quants[1].Name = "x"; q.States[0].Name = "S" })
}

// 13.1: each thing that can be wrong with a schema.
func TestSchema(t *testing.T) {
	for _, kind := range []int{math.MinInt, -1, 0, 4, 5, 257, 1<<32 + 1, math.MaxInt} {
		checkChanged(t, full(), func(q *api.Qea) { q.Decls = append(q.Decls, api.Decl{Name: "more", Types: []int{1, kind}}) }, "schema")
		checkChanged(t, full(), func(q *api.Qea) { q.Decls[3].Types[0] = kind }, "schema")
	}
	for i := range 4 {
		for k := range i {
			checkChanged(t, full(), func(q *api.Qea) { q.Decls[i].Name = q.Decls[k].Name }, "schema")
		}
	}
	for n, want := range map[int][]string{0: nil, 8: nil, 9: {"schema"}, 300: {"schema"}} {
		checkChanged(t, full(), func(q *api.Qea) { q.Decls[3].Types = slices.Repeat([]int{2}, n) }, want...)
	}
	for n, want := range map[int][]string{5: nil, 32: nil, 33: {"schema"}, 300: {"schema"}} {
		checkChanged(t, full(), func(q *api.Qea) {
			for len(q.Decls) < n {
				q.Decls = append(q.Decls, api.Decl{Name: "d" + strconv.Itoa(len(q.Decls))})
			}
		}, want...)
	}
}

// 13.1: kinds of quantified variables, and values of free ones.
func TestKindsAndValues(t *testing.T) {
	for _, kind := range []int{math.MinInt, -3, -1, 0, 4, 5, 258, 1<<32 + 2, math.MaxInt} {
		checkChanged(t, full(), func(q *api.Qea) { q.Quants = append(q.Quants, api.Quant{Name: "k", Type: kind}) }, "quant's kind", "stands")
		checkChanged(t, frame(), func(q *api.Qea) { q.Quants[1].Type = kind }, "quant's kind", "symbol")
	}
	for _, v := range goodValues {
		checkChanged(t, full(), func(q *api.Qea) { q.Frees[3].Init = v })
	}
	for _, v := range badValues {
		checkChanged(t, full(), func(q *api.Qea) { q.Frees[3].Init = v }, "free's value")
	}
	for i, p := range []string{"f", "g", "h"} {
		for kind := 1; kind <= 3; kind++ {
			if q := full(); q.Frees[i].Init.Kind != kind {
				q.Frees[i].Init = goodValues[slices.IndexFunc(goodValues, func(v api.Value) bool { return v.Kind == kind })]
				if core.Right(q) {
					t.Errorf("%s is of kind %d", p, kind)
				}
			}
		}
	}
}

// many is an automaton that has as many of each thing as asked for.
func many(quants, frees, states, symbols, trans, perTrans int) api.Qea {
	q := api.Qea{Name: "q", Decls: []api.Decl{{Name: "a", Types: []int{1}}, {Name: "b", Types: slices.Repeat([]int{1}, 8)}, {Name: "c", Types: slices.Repeat([]int{1}, 8)}}}
	for i := range quants {
		q.Quants = append(q.Quants, api.Quant{Name: "x" + strconv.Itoa(i), Type: 1})
	}
	for i := range frees {
		q.Frees = append(q.Frees, api.Free{Name: "f" + strconv.Itoa(i), Init: value.Int(int64(i))})
	}
	for i := range states {
		q.States = append(q.States, api.State{Name: "s" + strconv.Itoa(i)})
	}
	for i := range symbols {
		s := symbol(0, constArg(value.Int(int64(i))))
		if i < 2 {
			s = symbol(1+i, slices.Repeat([]api.Arg{arg(api.IsAny)}, 8)...)
			for k := range min(max(quants-8*i, 0), 8) {
				s.Args[k] = quantArg(8*i + k)
			}
		}
		q.Symbols = append(q.Symbols, s)
	}
	for range trans {
		if perTrans == 0 {
			add(&q, 0, symbols-1, states-1, nil)
			continue
		}
		add(&q, 0, symbols-1, states-1, balanced(perTrans))
	}
	return q
}

// balanced is a truth of so many nodes, that is not deep.
func balanced(n int) nodes {
	truth := constant(value.Bool(true))
	switch {
	case n == 1:
		return truth
	case n == 2:
		return join(api.OpNot, truth)
	}
	left := (n - 1) / 2
	return join(api.OpAnd, balanced(left), balanced(n-1-left))
}

// 13.1: just as many of each thing as there may be, and one more.
func TestBounds(t *testing.T) {
	check(t, many(8, 16, 32, 64, 256, 8))
	check(t, many(8, 0, 1, 2, 1, 1))
	check(t, many(9, 0, 1, 2, 1, 1), "many quants")
	check(t, many(16, 0, 1, 2, 1, 1), "many quants")
	check(t, many(0, 16, 1, 1, 1, 1))
	check(t, many(0, 17, 1, 1, 1, 1), "many frees")
	check(t, many(0, 500, 1, 1, 1, 1), "many frees")
	check(t, many(8, 9, 1, 2, 1, 1))
	check(t, many(0, 0, 0, 0, 0, 0), "no state")
	check(t, many(8, 16, 0, 2, 0, 0), "no state")
	check(t, many(0, 0, 32, 1, 1, 1))
	check(t, many(0, 0, 33, 1, 1, 1), "many states")
	check(t, many(0, 0, 500, 1, 1, 1), "many states")
	check(t, many(0, 0, 1, 64, 1, 1))
	check(t, many(0, 0, 1, 65, 1, 1), "many symbols")
	check(t, many(0, 0, 1, 500, 0, 0), "many symbols")
	check(t, many(0, 0, 1, 1, 1, 2048))
	check(t, many(0, 0, 1, 1, 1, 2049), "many nodes")
	check(t, many(0, 0, 1, 1, 3, 683), "many nodes")
	check(t, many(0, 0, 1, 1, 2, 1024))
	check(t, many(0, 0, 1, 1, 256, 0))
	check(t, many(0, 0, 1, 1, 257, 0), "many transitions")
	check(t, many(0, 0, 1, 1, 1000, 1), "many transitions")
	check(t, many(9, 17, 33, 65, 257, 8), "many frees", "many nodes", "many quants", "many states", "many symbols", "many transitions")
}

// 13.1: the start.
func TestStart(t *testing.T) {
	for start := range 4 {
		checkChanged(t, full(), func(q *api.Qea) { q.Start = start })
	}
	for _, start := range append([]int{4, 5, 32}, noPlaces...) {
		checkChanged(t, full(), func(q *api.Qea) { q.Start = start }, "start")
	}
	check(t, api.Qea{Name: "q", States: []api.State{{Name: "s"}}, Start: 1}, "start")
	check(t, api.Qea{Name: "q", States: []api.State{{Name: "s"}}, Start: -1}, "start")
}

// 13.1: symbols that are not as their declarations ask for.
func TestSymbols(t *testing.T) {
	any := arg(api.IsAny)
	for _, event := range append([]int{4, 5}, noPlaces...) {
		checkChanged(t, full(), func(q *api.Qea) { q.Symbols[0].Event = event }, "symbol")
		checkChanged(t, full(), func(q *api.Qea) { q.Symbols[6].Event = event }, "symbol")
	}
	checkChanged(t, least(), func(q *api.Qea) { q.Symbols = []api.Symbol{symbol(0)} }, "symbol")
	for _, s := range []api.Symbol{
		symbol(2, any), symbol(0), symbol(0, any), symbol(0, any, any, any), symbol(3), symbol(3, any, any),
		symbol(0, constArg(value.Str("a"))), symbol(0, constArg(value.Str("a")), constArg(value.Int(1)), constArg(value.Int(1))),
	} {
		checkChanged(t, full(), func(q *api.Qea) { q.Symbols[0] = s }, "symbol")
	}
}

// 13.1: arguments of each kind, where each kind is asked for, and with what they have not.
func TestArguments(t *testing.T) {
	// The declaration "all" has an argument of each kind; what stands there is of those kinds.
	kinds := func(a api.Arg) []int {
		q := frame()
		switch {
		case a.Kind == api.IsConst && a.N == 0 && isValue(a.Value):
			return []int{a.Value.Kind}
		case a.Kind == api.IsQuant && a.N >= 0 && a.N < 3 && a.Value == (api.Value{}):
			return []int{q.Quants[a.N].Type}
		case a.Kind == api.IsFree && a.N >= 0 && a.N < 4 && a.Value == (api.Value{}):
			return []int{q.Frees[a.N].Init.Kind}
		case a == api.Arg{Kind: api.IsAny}:
			return []int{1, 2, 3}
		}
		return nil
	}
	var l []api.Arg
	for _, kind := range []int{math.MinInt, -1, 0, 1, 2, 3, 4, 5, 258, math.MaxInt} {
		for _, n := range append([]int{0, 1, 2, 3, 4}, noPlaces...) {
			l = append(l, api.Arg{Kind: kind, N: n}, api.Arg{Kind: kind, N: n, Value: value.Int(0)}, api.Arg{Kind: kind, N: n, Value: value.Str("a")})
			l = append(l, api.Arg{Kind: kind, N: n, Value: api.Value{Bool: true}}, api.Arg{Kind: kind, N: n, Value: value.Bool(false)})
		}
		for _, v := range slices.Concat(goodValues, badValues) {
			l = append(l, api.Arg{Kind: kind, Value: v}, api.Arg{Kind: kind, N: 1, Value: v})
		}
	}
	right := 0
	for _, a := range l {
		for at := range 3 {
			q := frame()
			q.Decls = append(q.Decls, api.Decl{Name: "all", Types: []int{1, 2, 3}})
			s := symbol(4, slices.Repeat([]api.Arg{arg(api.IsAny)}, 3)...)
			s.Args[at] = a
			q.Symbols = append([]api.Symbol{s}, q.Symbols...)
			var want []string
			if !slices.Contains(kinds(a), at+1) {
				want = []string{"symbol"}
			} else {
				right++
			}
			check(t, q, want...)
			// What is wrong is so of a symbol of a transition, too.
			add(&q, 0, 0, 0, nil)
			q.Symbols = append(q.Symbols[1:], s)
			q.Trans[0].Symbol = len(q.Symbols) - 1
			check(t, q, want...)
		}
	}
	if right < 20 || right > 100 {
		t.Fatalf("%d are right", right)
	}
}

// 13.1: two symbols that are the same, wherever they stand; symbols that differ in one thing alone.
func TestSymbolsTwice(t *testing.T) {
	whole := full()
	for i, s := range whole.Symbols {
		checkChanged(t, whole, func(q *api.Qea) {
			q.Symbols = append([]api.Symbol{{Event: s.Event, Args: slices.Clone(s.Args)}}, q.Symbols...)
			for k := range q.Trans {
				q.Trans[k].Symbol++
			}
		}, "symbols twice")
		checkChanged(t, whole, func(q *api.Qea) {
			q.Symbols = append(q.Symbols, s)
			add(q, 0, len(q.Symbols)-1, 0, nil)
		}, "symbols twice")
		checkChanged(t, frame(), func(q *api.Qea) { q.Symbols = append(q.Symbols, q.Symbols[i]) }, "symbols twice")
	}
	any := arg(api.IsAny)
	checkChanged(t, frame(), func(q *api.Qea) {
		q.Decls = append(q.Decls, api.Decl{Name: "as", Types: []int{1}}, api.Decl{Name: "tock"})
		q.Symbols = append(q.Symbols, symbol(3, any), symbol(4, any), symbol(5), symbol(3, quantArg(1)), symbol(3, freeArg(0)), symbol(3, freeArg(3)))
		q.Symbols = append(q.Symbols, symbol(3, constArg(value.Int(1))), symbol(3, constArg(value.Int(2))), symbol(4, constArg(value.Int(2))))
		q.Symbols = append(q.Symbols, symbol(0, any, any), symbol(0, constArg(value.Str("")), any), symbol(0, any, constArg(value.Int(0))))
	})
}

// 13.1: symbols in another order than the chapter's.
func TestOrder(t *testing.T) {
	swap := func(i, k int) func(q *api.Qea) {
		return func(q *api.Qea) {
			q.Symbols[i], q.Symbols[k] = q.Symbols[k], q.Symbols[i]
			for at, x := range q.Trans {
				switch x.Symbol {
				case i:
					q.Trans[at].Symbol = k
				case k:
					q.Trans[at].Symbol = i
				}
			}
		}
	}
	checkChanged(t, full(), swap(0, 1))
	for i := range 7 {
		for k := range i {
			if i >= 2 {
				checkChanged(t, full(), swap(i, k), "order")
			}
		}
	}
	// The transitions alone are told in another order.
	checkChanged(t, full(), func(q *api.Qea) { q.Trans[6].Symbol, q.Trans[4].Symbol = 2, 6 }, "order")
	checkChanged(t, full(), func(q *api.Qea) { q.Trans[4].Symbol = 6 }, "order")
	checkChanged(t, full(), func(q *api.Qea) { q.Trans[4].Symbol = 4 })
	checkChanged(t, full(), func(q *api.Qea) { q.Trans[4].Symbol = 0 }, "order")
	// A symbol is left without a transition.
	checkChanged(t, full(), func(q *api.Qea) { q.Trans[6].Symbol = 2 }, "order")
	checkChanged(t, full(), func(q *api.Qea) { q.Trans = slices.Delete(q.Trans, 4, 5) })
	checkChanged(t, frame(), func(q *api.Qea) { add(q, 0, 6, 0, nil); add(q, 0, 6, 1, nil) })
	checkChanged(t, frame(), func(q *api.Qea) { add(q, 0, 5, 0, nil) }, "order")
	checkChanged(t, frame(), func(q *api.Qea) { add(q, 0, 6, 0, nil); add(q, 0, 5, 1, nil) }, "order")
	checkChanged(t, frame(), func(q *api.Qea) { add(q, 0, 5, 0, nil); add(q, 0, 6, 1, nil); add(q, 0, 5, 1, nil) })
	all := func(order ...int) func(q *api.Qea) {
		return func(q *api.Qea) {
			for _, s := range order {
				add(q, 0, s, 0, nil)
			}
		}
	}
	checkChanged(t, frame(), all(0, 1, 2, 3, 4, 5, 6))
	checkChanged(t, frame(), all(0, 0, 1, 0, 2, 3, 1, 4, 5, 2, 6, 6, 0))
	checkChanged(t, frame(), all(1, 0, 2, 3, 4, 5, 6), "order")
	checkChanged(t, frame(), all(0, 1, 2, 3, 4, 6, 5), "order")
	checkChanged(t, frame(), all(6, 5, 4, 3, 2, 1, 0), "order")
}

// 13.1: a quantified variable that stands in no symbol.
func TestVariablesStand(t *testing.T) {
	any := arg(api.IsAny)
	checkChanged(t, least(), func(q *api.Qea) { q.Quants = []api.Quant{{Name: "x", Type: 1}} }, "stands")
	checkChanged(t, full(), func(q *api.Qea) { q.Quants = append(q.Quants, api.Quant{Name: "no", Type: 1}) }, "stands")
	checkChanged(t, frame(), func(q *api.Qea) { q.Symbols[2].Args[0], q.Symbols[3].Args[1] = freeArg(1), any }, "stands")
	checkChanged(t, frame(), func(q *api.Qea) { q.Symbols[2].Args[0] = freeArg(1) })
	checkChanged(t, frame(), func(q *api.Qea) { q.Symbols[3].Args[1] = any })
	checkChanged(t, frame(), func(q *api.Qea) { q.Symbols[3].Args[0] = any }, "stands")
	// A free variable of the same number is another one.
	checkChanged(t, frame(), func(q *api.Qea) { q.Symbols[3].Args[0] = freeArg(2) }, "stands")
	checkChanged(t, frame(), func(q *api.Qea) {
		q.Symbols = append([]api.Symbol{symbol(1, quantArg(2), any, any)}, q.Symbols...)
		q.Symbols[4].Args[0] = any
	})
}

// 13.1: transitions from or to what is no state, or with what is no symbol.
func TestTransitions(t *testing.T) {
	for i := range full().Trans {
		for place := range 4 {
			checkChanged(t, full(), func(q *api.Qea) { q.Trans[i].From, q.Trans[i].To = place, 3-place })
		}
		for _, place := range append([]int{4, 31, 32}, noPlaces...) {
			checkChanged(t, full(), func(q *api.Qea) { q.Trans[i].From = place }, "from")
			checkChanged(t, full(), func(q *api.Qea) { q.Trans[i].To = place }, "to")
		}
	}
	for _, place := range append([]int{7, 8, 64}, noPlaces...) {
		checkChanged(t, full(), func(q *api.Qea) { q.Trans[4].Symbol = place }, "with")
		checkChanged(t, full(), func(q *api.Qea) { add(q, 0, place, 0, nil) }, "with")
		checkChanged(t, least(), func(q *api.Qea) { add(q, 0, place, 0, nil) }, "with")
		checkChanged(t, least(), func(q *api.Qea) { add(q, 0, place, 0, constant(value.Bool(true))) }, "with")
	}
	checkChanged(t, least(), func(q *api.Qea) { add(q, 0, 0, 0, nil) }, "with")
}

// one is the frame with one transition, of the symbol close(z, x, f), with these nodes, guard, and settings.
func one(l nodes, guard int, sets ...api.Set) api.Qea {
	q := frame()
	s := q.Symbols[3]
	q.Symbols = append(slices.Delete(q.Symbols, 3, 4), s)
	q.Nodes = l
	q.Trans = []api.Trans{{From: 1, To: 2, Symbol: 6, Guard: guard, Sets: sets}}
	return q
}

// 13.1: nodes that are left over, missing, or in another order.
func TestRows(t *testing.T) {
	truth, less := constant(value.Bool(true)), join(15, free(0), number(5))
	three, _ := row(less, join(5, free(0)), number(5))
	set := func(free, expr int) api.Set { return api.Set{Free: free, Expr: expr} }
	check(t, one(nil, -1))
	check(t, one(less, 2))
	check(t, one(three, 2, set(0, 4), set(3, 5)))
	check(t, one(three, -1, set(2, 2), set(0, 4), set(3, 5)))
	for _, q := range []api.Qea{
		one(nil, 0), one(nil, -2), one(nil, 1), one(nil, math.MinInt), one(nil, math.MaxInt),
		one(nil, -1, set(0, 0)), one(nil, -1, set(0, -1)), one(nil, -1, set(0, -2)), one(nil, -1, set(0, math.MaxInt)),
		one(less, -1), one(less, 3), one(less, -2), one(less, math.MinInt), one(less, math.MaxInt),
		one(truth, -1), one(truth, -2), one(truth, 0, set(2, 0)), one(truth, 0, set(0, -1)), one(truth, 0, set(0, 1)),
		one(less, -1, set(2, 2), set(0, -1)), one(less, 2, set(0, 0)), one(less, 2, set(0, 1)), one(less, 2, set(2, 2)),
		one(three, 2, set(0, 4)), one(three, 2, set(3, 5)), one(three, -1, set(0, 4), set(3, 5)), one(three, 2),
		one(three, 2, set(0, 5), set(3, 4)), one(three, 2, set(0, 3), set(3, 5)), one(three, 2, set(0, 3), set(3, 4)),
		one(three, 2, set(0, 4), set(3, 6)), one(three, 2, set(0, 4), set(3, 4)), one(three, -1, set(0, 4), set(3, 5), set(2, 2)),
		one(three[:5], 2, set(0, 4), set(3, 5)), one(three[:4], 2, set(0, 4)), one(three[1:], 1, set(0, 3), set(3, 4)),
		one(nodes{truth[0], truth[0]}, 0), one(nodes{truth[0], truth[0]}, 1),
		one(append(slices.Clone(less), truth[0]), 2), one(append(slices.Clone(truth), behind(less, 1)...), 3), one(append(slices.Clone(truth), less...), 3),
	} {
		check(t, q, "row")
	}
	// Each transition has its own nodes, in the transitions' order.
	two := one(nil, -1)
	add(&two, 0, 6, 0, less)
	add(&two, 0, 6, 0, truth, setting{0, number(5)})
	check(t, two)
	checkChanged(t, two, func(q *api.Qea) { q.Trans[1], q.Trans[2] = q.Trans[2], q.Trans[1] }, "row")
	checkChanged(t, two, func(q *api.Qea) { q.Trans[0], q.Trans[1] = q.Trans[1], q.Trans[0] })
	checkChanged(t, two, func(q *api.Qea) { q.Trans[0].Guard = 2 }, "row")
	checkChanged(t, two, func(q *api.Qea) { q.Trans[2].Guard = 2 }, "row")
	checkChanged(t, two, func(q *api.Qea) { q.Trans[1].Guard = -1 }, "row")
	checkChanged(t, two, func(q *api.Qea) { q.Trans = q.Trans[:2] }, "row")
	checkChanged(t, two, func(q *api.Qea) { q.Trans = q.Trans[1:] })
	checkChanged(t, two, func(q *api.Qea) { q.Trans = append(q.Trans, q.Trans[1]) }, "row")
	checkChanged(t, two, func(q *api.Qea) { q.Nodes = append(q.Nodes, q.Nodes[0]) }, "row")
	checkChanged(t, two, func(q *api.Qea) { q.Nodes = q.Nodes[:4] }, "row")
}

// 13.1: nodes that have what their operator has not, or whose expressions stand elsewhere.
func TestNodes(t *testing.T) {
	for i, n := range full().Nodes {
		for _, turn := range []func(n *api.Node){
			func(n *api.Node) { n.B++ }, func(n *api.Node) { n.B-- }, func(n *api.Node) { n.B = math.MinInt }, func(n *api.Node) { n.B = math.MaxInt },
			func(n *api.Node) { n.A = -1 }, func(n *api.Node) { n.A = 99 }, func(n *api.Node) { n.A = math.MinInt }, func(n *api.Node) { n.A = math.MaxInt },
			func(n *api.Node) { n.Op = 0 }, func(n *api.Node) { n.Op = 17 }, func(n *api.Node) { n.Op = -n.Op }, func(n *api.Node) { n.Op = math.MaxInt },
		} {
			checkChanged(t, full(), func(q *api.Qea) { turn(&q.Nodes[i]) }, "row")
		}
		if n.Op == api.OpConst {
			for _, v := range badValues {
				checkChanged(t, full(), func(q *api.Qea) { q.Nodes[i].Value = v }, "row")
			}
			checkChanged(t, full(), func(q *api.Qea) { q.Nodes[i].A = 1 }, "row")
			continue
		}
		for _, v := range slices.Concat(goodValues, badValues[1:]) {
			checkChanged(t, full(), func(q *api.Qea) { q.Nodes[i].Value = v }, "row")
		}
		if n.Op >= api.OpNot {
			checkChanged(t, full(), func(q *api.Qea) { q.Nodes[i].A++ }, "row")
			checkChanged(t, full(), func(q *api.Qea) { q.Nodes[i].A-- }, "row")
			checkChanged(t, full(), func(q *api.Qea) { q.Nodes[i].A, q.Nodes[i].B = n.B, n.A }, "row")
		}
	}
	check(t, one(nodes{{Op: api.OpQuant, A: 3}}, 0), "row")
	check(t, one(nodes{{Op: api.OpFree, A: 4}}, 0), "row")
	check(t, one(nodes{{Op: api.OpNot, A: -1}}, 0), "row")
	check(t, one(nodes{{Op: api.OpAnd, A: -2, B: -1}}, 0), "row")
	check(t, one(nodes{{Op: api.OpFree, A: 2}, {Op: api.OpAnd, A: -1, B: 0}}, 1), "row")
	check(t, one(nodes{{Op: api.OpFree, A: 2}, {Op: api.OpAnd}}, 1), "row")
}

// leaves are expressions of one node, by their kinds.
func leaves(kind int) []nodes {
	return map[int][]nodes{
		1: {number(0), number(math.MinInt64), quant(1), free(0), free(3)},
		2: {constant(value.Str("")), constant(value.Str(strings.Repeat("x", 4096))), quant(0), free(1)},
		3: {constant(value.Bool(false)), constant(value.Bool(true)), quant(2), free(2)},
	}[kind]
}

// checkKind holds the kind of a row of nodes against what it is said to be.
func checkKind(t *testing.T, l nodes, want int) {
	t.Helper()
	q := frame()
	q.Nodes = l
	if got := core.Kind(q, len(l)-1); got != want || kindAt(q, len(l)-1) != want {
		t.Fatalf("Kind(%s) = %d, not %d", brief(l), got, want)
	}
}

// 13.1: the kind of each sort of expression, in each place, and 0 of those that have none.
func TestKinds(t *testing.T) {
	for a := 1; a <= 3; a++ {
		for _, x := range leaves(a) {
			checkKind(t, x, a)
			for _, op := range oneOps {
				checkKind(t, join(op, x), kindsOf[op][a])
				checkKind(t, join(op, join(op, x)), kindsOf[op][a])
				checkKind(t, join(api.OpEq, join(op, x), x), map[bool]int{true: 3, false: 0}[kindsOf[op][a] == a])
			}
			for b := 1; b <= 3; b++ {
				for _, y := range leaves(b) {
					for _, op := range twoOps {
						want := 0
						if a == b {
							want = kindsOf[op][a]
						}
						checkKind(t, join(op, x, y), want)
						checkKind(t, join(op, join(op, x, y), y), map[bool]int{true: kindsOf[op][want], false: 0}[want == b])
						checkKind(t, join(op, x, join(op, x, y)), map[bool]int{true: kindsOf[op][want], false: 0}[want == a])
						guarded(t, join(op, x, y), want)
					}
				}
			}
		}
	}
	for _, op := range noOps {
		checkKind(t, nodes{{Op: op}}, 0)
		checkKind(t, nodes{{Op: op, Value: value.Int(5)}}, 0)
		checkKind(t, nodes{number(5)[0], {Op: op, A: 0}}, 0)
		checkKind(t, nodes{number(5)[0], number(5)[0], {Op: op, A: 0, B: 1}}, 0)
	}
	for _, op := range leafOps {
		checkKind(t, nodes{{Op: op, A: -1}}, 0)
		checkKind(t, nodes{{Op: op, A: 9}}, 0)
	}
	checkKind(t, nodes{{Op: api.OpConst}}, 0)
}

// guarded holds an automaton with an expression as its guard: it may be, if that is a truth.
func guarded(t *testing.T, l nodes, kind int) {
	t.Helper()
	q := frame()
	q.Decls = append(q.Decls, api.Decl{Name: "wide", Types: []int{2, 1, 3}})
	q.Symbols = append(q.Symbols, symbol(4, quantArg(0), quantArg(1), quantArg(2)))
	add(&q, 0, 7, 0, l)
	check(t, q, map[int][]string{0: {"expression's kind"}, 1: {"guard"}, 2: {"guard"}, 3: nil}[kind]...)
}

// 13.1: places where no expression has its root, and expressions in a row.
func TestPlaces(t *testing.T) {
	q := frame()
	for _, at := range noPlaces {
		if core.Kind(q, at) != 0 || core.Kind(full(), at) != 0 || core.Kind(api.Qea{}, at) != 0 {
			t.Errorf("a kind at %d", at)
		}
	}
	if core.Kind(q, 0) != 0 || core.Kind(api.Qea{}, 0) != 0 {
		t.Error("a kind without nodes")
	}
	q.Nodes, _ = row(join(15, join(5, free(0)), join(8, number(1), quant(1))), join(4, constant(value.Bool(true))), constant(value.Str("a")), join(4, number(1)))
	for at, want := range []int{1, 1, 1, 1, 1, 3, 3, 3, 2, 1, 0, 0, 0} {
		if got := core.Kind(q, at); got != want {
			t.Errorf("Kind at %d = %d, not %d", at, got, want)
		}
	}
	// A node that is changed for what is none takes away the kinds of just those expressions that it is of.
	for i := range q.Nodes {
		changed := clone(q)
		changed.Nodes[i].Op = 0
		for at := range q.Nodes {
			want := core.Kind(q, at)
			if at >= i && at-shapeOf(q, at).size < i {
				want = 0
			}
			if got := core.Kind(changed, at); got != want {
				t.Errorf("Kind at %d without %d = %d, not %d", at, i, got, want)
			}
		}
	}
	// What is told of nodes hangs on the variables alone, whatever else may be wrong, and wherever the variables stand.
	q.Name, q.States, q.Symbols, q.Decls, q.Start = "", nil, nil, nil, -1
	if core.Kind(q, 5) != api.Bool || core.Right(q) {
		t.Error("an automaton that may not be")
	}
	q.Quants = q.Quants[:1]
	if core.Kind(q, 4) != 0 || core.Kind(q, 5) != 0 || core.Kind(q, 1) != api.Int {
		t.Error("a variable that there is not")
	}
}

// 13.1: depths to the left, to the right, and of one expression alone.
func TestDepths(t *testing.T) {
	for _, depth := range []int{1, 2, 63, 64, 65, 66, 200} {
		for _, way := range []string{"one", "left", "right"} {
			truth, ofNumbers, op, sum := constant(value.Bool(true)), number(1), api.OpAnd, api.OpAdd
			if way == "one" {
				op, sum = api.OpNot, api.OpNeg
			}
			l, of := chain(depth, way, op, truth), chain(depth, way, sum, ofNumbers)
			var want []string
			if depth > 64 {
				want = []string{"depth"}
			}
			checkChanged(t, frame(), tail(0, l), want...)
			checkChanged(t, frame(), tail(0, nil, setting{0, of}), want...)
			checkChanged(t, frame(), tail(0, truth, setting{0, number(1)}, setting{2, l}), want...)
			q := frame()
			q.Nodes, _ = row(l, truth, of)
			kinds := map[bool][2]int{true: {3, 1}, false: {}}[depth <= 64]
			if core.Kind(q, len(l)-1) != kinds[0] || core.Kind(q, len(q.Nodes)-1) != kinds[1] || core.Kind(q, len(l)) != 3 {
				t.Errorf("depth %d %s: %d, %d", depth, way, core.Kind(q, len(l)-1), core.Kind(q, len(q.Nodes)-1))
			}
		}
	}
	q := least()
	for range 1 << 20 {
		q.Nodes = append(q.Nodes, api.Node{Op: api.OpNot, A: len(q.Nodes) - 1})
	}
	q.Nodes[0] = constant(value.Bool(true))[0]
	if core.Kind(q, 63) != api.Bool || core.Kind(q, 64) != 0 || core.Kind(q, len(q.Nodes)-1) != 0 || core.Right(q) {
		t.Error("far too deep")
	}
}

// 13.1: guards that are no truth, and settings of no free variable, of one twice, and of another kind.
func TestGuardsAndSettings(t *testing.T) {
	kinds := []nodes{1: number(5), 2: constant(value.Str("a")), 3: constant(value.Bool(false))}
	for kind := 1; kind <= 3; kind++ {
		want := map[int][]string{1: {"guard"}, 2: {"guard"}, 3: nil}[kind]
		checkChanged(t, frame(), tail(0, kinds[kind]), want...)
		checkChanged(t, frame(), tail(0, kinds[kind], setting{0, number(5)}), want...)
		for v, x := range frame().Frees {
			want := map[bool][]string{false: {"set's kind"}}[x.Init.Kind == kind]
			checkChanged(t, frame(), tail(0, nil, setting{v, kinds[kind]}), want...)
			checkChanged(t, frame(), tail(0, kinds[3], setting{v, kinds[kind]}), want...)
			if v > 0 {
				checkChanged(t, frame(), tail(0, nil, setting{0, number(5)}, setting{v, kinds[kind]}), want...)
			}
			checkChanged(t, frame(), tail(0, nil, setting{v, kinds[x.Init.Kind]}, setting{v, kinds[x.Init.Kind]}), "set twice")
			checkChanged(t, frame(), tail(0, nil, setting{v, kinds[x.Init.Kind]}, setting{(v + 1) % 4, kinds[frame().Frees[(v+1)%4].Init.Kind]}, setting{v, kinds[x.Init.Kind]}), "set twice")
		}
		for _, v := range append([]int{4, 5, 16}, noPlaces...) {
			checkChanged(t, frame(), tail(0, nil, setting{v, kinds[kind]}), "set of none")
			checkChanged(t, frame(), tail(0, nil, setting{0, number(1)}, setting{v, kinds[kind]}), "set of none")
		}
	}
	checkChanged(t, frame(), tail(0, nil, setting{3, kinds[1]}, setting{2, kinds[3]}, setting{1, kinds[2]}, setting{0, kinds[1]}))
	checkChanged(t, least(), func(q *api.Qea) {
		q.Decls, q.Symbols = []api.Decl{{Name: "a"}}, []api.Symbol{symbol(0)}
		add(q, 0, 0, 0, nil, setting{0, number(1)})
	}, "set of none")
	// Another transition may set the same one.
	checkChanged(t, full(), func(q *api.Qea) {
		add(q, 0, 2, 0, nil, setting{0, number(1)})
		add(q, 0, 2, 0, nil, setting{0, number(1)})
	})
	// An expression has no kind, wherever it stands.
	none := join(api.OpNot, number(5))
	checkChanged(t, frame(), tail(0, none), "expression's kind")
	checkChanged(t, frame(), tail(0, nil, setting{0, none}), "expression's kind")
	checkChanged(t, frame(), tail(0, nil, setting{2, none}), "expression's kind")
	checkChanged(t, frame(), tail(0, kinds[3], setting{0, number(1)}, setting{2, join(api.OpEq, number(5), none)}), "expression's kind")
}

// 13.1: quantified variables in a guard or a setting that do not stand in the transition's symbol.
func TestVariablesOfTransitions(t *testing.T) {
	whole := frame()
	for at, s := range whole.Symbols {
		for v, x := range whole.Quants {
			var want []string
			if !slices.ContainsFunc(s.Args, func(a api.Arg) bool { return a == quantArg(v) }) {
				want = []string{"stands there"}
			}
			of := map[int]int{1: 0, 2: 1, 3: 2}[x.Type]
			checkChanged(t, whole, tail(at, join(api.OpEq, quant(v), free(of))), want...)
			checkChanged(t, whole, tail(at, join(api.OpEq, free(of), quant(v))), want...)
			checkChanged(t, whole, tail(at, nil, setting{of, quant(v)}), want...)
			checkChanged(t, whole, tail(at, constant(value.Bool(true)), setting{3, number(1)}, setting{of, quant(v)}), want...)
			// What stands in a transition's symbol stands in no other one's.
			checkChanged(t, whole, func(q *api.Qea) {
				tail(at, nil, setting{of, quant(v)})(q)
				add(q, 0, 6, 0, nil)
			}, want...)
			checkChanged(t, whole, func(q *api.Qea) {
				tail(at, nil)(q)
				q.Symbols = append(q.Symbols, symbol(3, arg(api.IsAny)))
				add(q, 0, 7, 0, nil, setting{of, quant(v)})
			}, "stands there")
		}
	}
}

// 13.1: an automaton is the same as itself, and as one that has the same in other memory; one thing alone that differs tells them apart.
func TestSame(t *testing.T) {
	for _, whole := range []api.Qea{full(), spoilt()} {
		if !core.Same(whole, whole) || !core.Same(whole, clone(whole)) {
			t.Fatal("not the same as itself")
		}
		checkApart := func(path string, other api.Qea) {
			t.Helper()
			if core.Same(whole, other) || core.Same(other, whole) {
				t.Fatalf("the same, but for %s", path)
			}
		}
		for i, p := range fields(&whole) {
			other := clone(whole)
			change(fields(&other)[i].v)
			checkApart(p.path, other)
		}
		for i, p := range lists(&whole) {
			longer := clone(whole)
			v := lists(&longer)[i].v
			v.Set(reflect.Append(v, reflect.Zero(v.Type().Elem())))
			checkApart(p.path+" with a last one", longer)
			if p.v.Len() == 0 {
				continue
			}
			shorter, later, swapped := clone(whole), clone(whole), clone(whole)
			v = lists(&shorter)[i].v
			v.SetLen(v.Len() - 1)
			checkApart(p.path+" without the last one", shorter)
			v = lists(&later)[i].v
			v.Set(v.Slice(1, v.Len()))
			checkApart(p.path+" without the first one", later)
			v = lists(&swapped)[i].v
			if last := v.Len() - 1; last > 0 && !reflect.DeepEqual(v.Index(0).Interface(), v.Index(last).Interface()) {
				first := reflect.New(v.Type().Elem()).Elem()
				first.Set(v.Index(0))
				v.Index(0).Set(v.Index(last))
				v.Index(last).Set(first)
				checkApart(p.path+" in another order", swapped)
			}
		}
	}
	if core.Same(full(), least()) || core.Same(least(), full()) || core.Same(least(), api.Qea{}) || !core.Same(api.Qea{}, api.Qea{}) {
		t.Fatal("least")
	}
}

// spoilt is an automaton that may not be, in all that it has.
func spoilt() api.Qea {
	q := full()
	for i, p := range fields(&q) {
		switch p.v.Kind() {
		case reflect.Int, reflect.Int64:
			p.v.SetInt(-int64(i) - 3)
		case reflect.String:
			p.v.SetString("no name " + strconv.Itoa(i))
		case reflect.Bool:
			p.v.SetBool(i%2 == 0)
		}
	}
	return q
}

// R1: what may not be in all that it has panics nowhere, and is told as such.
func TestSpoilt(t *testing.T) {
	q := spoilt()
	check(t, q, broken(q)...)
	if len(broken(q)) < 10 {
		t.Fatalf("%q", broken(q))
	}
	for i, s := range q.Symbols {
		if got := core.Symbol(q, s); got != "" {
			t.Errorf("symbol %d: %q", i, got)
		}
	}
}

// R3: no list and an empty one are the same, wherever they stand.
func TestNilAndEmpty(t *testing.T) {
	for _, q := range []api.Qea{least(), full()} {
		for i, p := range lists(&q) {
			if p.v.Len() > 0 {
				continue
			}
			other := clone(q)
			v := lists(&other)[i].v
			v.Set(reflect.MakeSlice(v.Type(), 0, 3))
			if !core.Same(q, other) || !core.Same(other, q) {
				t.Errorf("%s: not the same", p.path)
			}
			check(t, other)
		}
	}
}

// 13.2: whether a variable stands in a symbol, with variables that there are not.
func TestStands(t *testing.T) {
	all := symbol(0, quantArg(0), freeArg(1), constArg(value.Int(2)), arg(api.IsAny), quantArg(7), quantArg(0))
	for v := -2; v <= 10; v++ {
		if got := core.Stands(all, v); got != (v == 0 || v == 7) {
			t.Errorf("Stands(%d) = %v", v, got)
		}
		if core.Stands(symbol(0), v) || core.Stands(api.Symbol{}, v) || core.Stands(symbol(0, arg(0), arg(1), arg(3), arg(4), arg(5), arg(-2)), v) {
			t.Errorf("%d stands in symbols without variables", v)
		}
		for k := range 8 {
			if got := core.Stands(symbol(5, arg(api.IsAny), quantArg(k)), v); got != (k == v) {
				t.Errorf("Stands(%d) = %v, of %d", v, got, k)
			}
		}
	}
	for _, v := range noPlaces {
		if core.Stands(all, v) {
			t.Errorf("%d stands", v)
		}
	}
	for _, v := range []int{-1, -2, math.MinInt} {
		if core.Stands(symbol(0, quantArg(v)), v) {
			t.Errorf("%d stands", v)
		}
	}
}

// 13.2: symbols' texts, with no, one and several arguments of each kind, whether or not they are the automaton's own.
func TestSymbolTexts(t *testing.T) {
	q := full()
	for i, want := range []string{
		"tick()", `close(true, "a \"k\"", _)`, "open(x, y)", "close(z, x, f)", "open(g, _)", "open(_, y)", "close(h, _, -3)",
	} {
		if got := core.Symbol(q, q.Symbols[i]); got != want {
			t.Errorf("Symbol %d = %q, not %q", i, got, want)
		}
	}
	any := arg(api.IsAny)
	for _, c := range []struct {
		s    api.Symbol
		want string
	}{
		{symbol(3, any), "never(_)"},
		{symbol(3, quantArg(1)), "never(y)"},
		{symbol(3, freeArg(0)), "never(f)"},
		{symbol(3, freeArg(3)), "never(idle)"},
		{symbol(3, constArg(value.Int(0))), "never(0)"},
		{symbol(3, constArg(value.Int(math.MinInt64))), "never(-9223372036854775808)"},
		{symbol(0, any, any), "open(_, _)"},
		{symbol(0, constArg(value.Str("")), constArg(value.Int(7))), `open("", 7)`},
		{symbol(0, constArg(value.Str("a, b)\n\x00")), freeArg(3)), `open("a, b)\n\x00", idle)`},
		{symbol(0, quantArg(0), freeArg(0)), "open(x, f)"},
		{symbol(1, constArg(value.Bool(false)), quantArg(0), quantArg(1)), "close(false, x, y)"},
		{symbol(1, freeArg(2), freeArg(1), freeArg(0)), "close(h, g, f)"},
		{symbol(1, quantArg(2), constArg(value.Str("_")), constArg(value.Int(-1))), `close(z, "_", -1)`},
	} {
		q := frame()
		if !slices.ContainsFunc(q.Symbols, func(s api.Symbol) bool { return s.Event == c.s.Event && slices.Equal(s.Args, c.s.Args) }) {
			q.Symbols = append(q.Symbols, c.s)
		}
		check(t, q)
		if got := core.Symbol(q, c.s); got != c.want {
			t.Errorf("Symbol(%s) = %q, not %q", brief(c.s), got, c.want)
		}
	}
	wide := least()
	wide.Decls = []api.Decl{{Name: "wide", Types: slices.Repeat([]int{3}, 8)}}
	wide.Symbols = []api.Symbol{symbol(0, slices.Repeat([]api.Arg{any}, 8)...)}
	check(t, wide)
	if got := core.Symbol(wide, wide.Symbols[0]); got != "wide(_, _, _, _, _, _, _, _)" {
		t.Error(got)
	}
}

// 13.2: automata that are plain, and that are not, by free variables and by guards.
func TestPlain(t *testing.T) {
	plain := func(q api.Qea, want bool) {
		t.Helper()
		check(t, q)
		if core.Plain(q) != want {
			t.Fatalf("Plain(%s) = %v", brief(q), !want)
		}
	}
	truth := constant(value.Bool(true))
	base := func() api.Qea {
		q := least()
		q.Decls = []api.Decl{{Name: "a", Types: []int{1}}}
		q.Quants = []api.Quant{{Name: "x", Type: 1}}
		q.Symbols = []api.Symbol{symbol(0, arg(api.IsAny)), symbol(0, quantArg(0))}
		return q
	}
	plain(least(), true)
	plain(base(), true)
	plain(full(), false)
	plain(frame(), false)
	for guards := range 8 {
		q := base()
		for i := range 3 {
			if guards>>i&1 == 1 {
				add(&q, 0, 1, 0, truth)
			} else {
				add(&q, 0, 1, 0, nil)
			}
		}
		plain(q, guards == 0)
		q.Frees = []api.Free{{Name: "f", Init: value.Int(0)}}
		plain(q, false)
		add(&q, 0, 1, 0, nil, setting{0, number(1)})
		plain(q, false)
	}
}

// someExpr is an expression of a kind, made by chance, at most so deep, of the variables that stand in a symbol of the frame's.
func someExpr(chance *rand.Rand, s api.Symbol, kind, depth int) nodes {
	if depth > 1 && chance.Intn(4) > 0 {
		for {
			op, of := 4+chance.Intn(13), 1+chance.Intn(3)
			if kindsOf[op][of] != kind {
				continue
			}
			if op <= 5 {
				return join(op, someExpr(chance, s, of, depth-1))
			}
			return join(op, someExpr(chance, s, of, depth-1), someExpr(chance, s, of, depth-1))
		}
	}
	for {
		l := leaves(kind)
		x := l[chance.Intn(len(l))]
		if x[0].Op != api.OpQuant || standsIn(s, x[0].A) {
			return x
		}
	}
}

// someQea is an automaton that may be, made of the frame by chance.
func someQea(chance *rand.Rand) api.Qea {
	q := frame()
	pool := slices.Clone(q.Symbols)
	chance.Shuffle(len(pool), func(i, k int) { pool[i], pool[k] = pool[k], pool[i] })
	unused := chance.Intn(len(pool))
	q.Symbols = pool
	next := unused
	for range len(pool) - unused + chance.Intn(4) {
		s := unused + chance.Intn(next-unused+1)
		if s == next && next == len(pool) {
			s--
		}
		next = max(next, s+1)
		var guard nodes
		if chance.Intn(2) == 0 {
			guard = someExpr(chance, pool[s], 3, 1+chance.Intn(4))
		}
		var sets []setting
		for _, v := range chance.Perm(len(q.Frees))[:chance.Intn(len(q.Frees)+1)] {
			sets = append(sets, setting{v, someExpr(chance, pool[s], q.Frees[v].Init.Kind, 1+chance.Intn(3))})
		}
		add(&q, chance.Intn(4), s, chance.Intn(4), guard, sets...)
	}
	// Those that no transition came to go to the front, in order.
	q.Symbols = slices.Concat(pool[next:], pool[:next])
	for i := range q.Trans {
		q.Trans[i].Symbol += len(pool) - next
	}
	q.Start = chance.Intn(4)
	return q
}

// changeQea changes a field, or a list, of an automaton, told by two numbers.
func changeQea(q *api.Qea, at, how int) {
	l := parts(q)
	p := l[at%len(l)]
	switch p.v.Kind() {
	case reflect.Int, reflect.Int64:
		p.v.SetInt([]int64{p.v.Int() + 1, p.v.Int() - 1, -1, 0, 1, 2, 3, 4, 16, 17, int64(how)}[how%11])
	case reflect.String:
		names := slices.Concat(goodNames, badNames, []string{"x", "y", "f", "s", "w", "open"})
		p.v.SetString(names[how%len(names)])
	case reflect.Bool:
		change(p.v)
	case reflect.Slice:
		n := p.v.Len()
		switch {
		case n == 0 || how%4 == 0:
			p.v.Set(reflect.Append(p.v, reflect.Zero(p.v.Type().Elem())))
		case how%4 == 1:
			p.v.SetLen(n - 1)
		case how%4 == 2:
			p.v.Set(reflect.Append(p.v, p.v.Index(how%n)))
		default:
			first := reflect.New(p.v.Type().Elem()).Elem()
			first.Set(p.v.Index(0))
			p.v.Index(0).Set(p.v.Index(how % n))
			p.v.Index(how % n).Set(first)
		}
	}
}

// 13.1, 13.2: automata made by chance, as they are, and changed.
func TestManyAutomata(t *testing.T) {
	chance := rand.New(rand.NewSource(13))
	right, alone := 0, map[string]int{}
	for range 1500 {
		q := someQea(chance)
		check(t, q)
		for range 4 {
			changed := clone(q)
			for range 1 + chance.Intn(2) {
				changeQea(&changed, chance.Intn(1<<20), chance.Intn(256))
			}
			l := broken(changed)
			check(t, changed, l...)
			if len(l) == 0 {
				right++
			}
			if len(l) == 1 {
				alone[l[0]]++
			}
			if core.Same(q, changed) != equal(q, changed) || core.Same(changed, q) != equal(q, changed) {
				t.Fatalf("Same(%s, %s) = %v", brief(q), brief(changed), !equal(q, changed))
			}
		}
	}
	if right < 500 || right > 5500 || len(alone) < 12 {
		t.Fatalf("%d are right; alone %v", right, alone)
	}
}

func FuzzNodes(f *testing.F) {
	f.Add([]byte{3, 0, 0, 0, 1, 0, 0, 0, 8, 0, 1, 0})
	f.Add([]byte{2, 1, 0, 0, 5, 0, 0, 0, 3, 3, 0, 0, 15, 1, 2, 0})
	f.Fuzz(func(t *testing.T, b []byte) {
		q := frame()
		for ; len(b) >= 4 && len(q.Nodes) < 300; b = b[4:] {
			n := api.Node{Op: int(int8(b[0])), A: int(int8(b[1])), B: int(int8(b[2]))}
			if n.Op == api.OpConst || b[3]&1 == 1 {
				n.Value = slices.Concat(goodValues, badValues)[int(b[3]>>1)%(len(goodValues)+len(badValues))]
			}
			q.Nodes = append(q.Nodes, n)
		}
		check(t, q, broken(q)...)
		q.Trans = []api.Trans{{Symbol: 6, Guard: len(q.Nodes) - 1}}
		check(t, q, broken(q)...)
	})
}

func FuzzQea(f *testing.F) {
	f.Add([]byte{})
	f.Add([]byte{0, 1, 2})
	f.Add([]byte{0, 200, 5, 1, 9, 255})
	f.Fuzz(func(t *testing.T, b []byte) {
		q := full()
		for ; len(b) >= 3; b = b[3:] {
			changeQea(&q, int(b[0])<<8+int(b[1]), int(b[2]))
		}
		check(t, q, broken(q)...)
	})
}
