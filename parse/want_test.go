package parse_test

import (
	"math/big"
	"math/rand"
	"regexp"
	"slices"
	"strings"

	"proctor/api"
	"proctor/lex"
)

// chapterForm is the form of what is written, as the chapter has it, and below it what it says of a KIND.
const chapterForm = `
spec:   qea NAME {event NAME ( [KIND {, KIND}] )}
        {forall NAME : KIND | exists NAME : KIND} {free NAME = VALUE}
        {skip NAME [accept] | next NAME [accept]} start NAME
        {also SYMBOL} {NAME on SYMBOL [if EXPR] [do NAME = EXPR {, NAME = EXPR}] to NAME}
SYMBOL: NAME ( [ARG {, ARG}] )
ARG:    _ | NAME | VALUE
VALUE:  [-] NUMBER | QUOTED | true | false
EXPR:   AND {or AND}
AND:    NOT {and NOT}
NOT:    not NOT | COMP
COMP:   SUM [== SUM | != SUM | < SUM | <= SUM | > SUM | >= SUM]
SUM:    PROD {+ PROD | - PROD}
PROD:   UNARY {* UNARY | / UNARY | % UNARY}
UNARY:  - UNARY | VALUE | NAME | ( EXPR )
KIND:   int | string | bool
`

// rule is one way in which a name of the form may be laid out.
type rule struct {
	name  string
	parts []string
}

// grammar is the form, rule by rule: what stands in { } and [ ] has names of its own.
type grammar struct {
	rules []rule
	byOf  map[string][]int
	empty map[string]bool
}

var theForm = readForm(chapterForm)

// readForm reads the form.
func readForm(s string) *grammar {
	g := &grammar{byOf: map[string][]int{}, empty: map[string]bool{}}
	for _, line := range regexp.MustCompile(`(?m)^[A-Za-z]+: [^:]*(?: : [^:]*)*$`).FindAllString(s, -1) {
		name, rest, _ := strings.Cut(line, ":")
		g.readParts(name, regexp.MustCompile(`[{}\[\]|]|[^{}\[\]|\s]+`).FindAllString(rest, -1), "")
	}
	for i, r := range g.rules {
		g.byOf[r.name] = append(g.byOf[r.name], i)
		if len(r.parts) == 0 {
			g.empty[r.name] = true
		}
	}
	return g
}

// readParts reads what may stand for a name, up to what ends it, and tells what is left.
func (g *grammar) readParts(name string, l []string, end string) []string {
	var parts []string
	// What stands in { } is itself, and one more of it.
	if end == "}" {
		parts = []string{name}
	}
	begin := slices.Clone(parts)
	for len(l) > 0 && l[0] != end {
		part := l[0]
		l = l[1:]
		switch part {
		case "|":
			g.rules = append(g.rules, rule{name, parts})
			parts = slices.Clone(begin)
		case "{", "[":
			inner := name + part + string(rune('a'+len(g.rules)))
			g.rules = append(g.rules, rule{inner, nil})
			l = g.readParts(inner, l, map[string]string{"{": "}", "[": "]"}[part])[1:]
			parts = append(parts, inner)
		default:
			parts = append(parts, part)
		}
	}
	g.rules = append(g.rules, rule{name, parts})
	return l
}

// item is a rule that is read up to a part, from a token on (J. Earley, 1970).
type item struct{ rule, part, from int }

// place tells which token is the first that can't stand where it does (as many as there are, if none), and whether the form is whole then.
func (g *grammar) place(start string, classes []string) (int, bool) {
	sets := make([][]item, len(classes)+1)
	met := map[item]bool{}
	for at := 0; ; at++ {
		add := func(x item) {
			if !met[x] {
				met[x] = true
				sets[at] = append(sets[at], x)
			}
		}
		clear(met)
		if at == 0 {
			for _, r := range g.byOf[start] {
				add(item{r, 0, 0})
			}
		} else {
			for _, x := range sets[at-1] {
				if parts := g.rules[x.rule].parts; x.part < len(parts) && parts[x.part] == classes[at-1] {
					add(item{x.rule, x.part + 1, x.from})
				}
			}
		}
		if len(sets[at]) == 0 {
			return at - 1, false
		}
		whole := false
		for i := 0; i < len(sets[at]); i++ {
			x := sets[at][i]
			r := g.rules[x.rule]
			if x.part == len(r.parts) {
				whole = whole || r.name == start && x.from == 0
				for _, y := range sets[x.from] {
					if parts := g.rules[y.rule].parts; y.part < len(parts) && parts[y.part] == r.name {
						add(item{y.rule, y.part + 1, y.from})
					}
				}
				continue
			}
			for _, next := range g.byOf[r.parts[x.part]] {
				add(item{next, 0, at})
			}
			if g.empty[r.parts[x.part]] {
				add(item{x.rule, x.part + 1, x.from})
			}
		}
		if at == len(classes) {
			return at, whole
		}
	}
}

// classOf is what a token stands as in the form.
func classOf(x lex.Token) string {
	switch {
	case x.Kind == 1 && x.Text != "_":
		return "NAME"
	case x.Kind == 3:
		return "NUMBER"
	case x.Kind == 4:
		return "QUOTED"
	}
	return x.Text
}

// someTexts are tokens, made by chance of the form: at most some as many, if it can be.
func someTexts(chance *rand.Rand, start string, most int) []string {
	var out []string
	var lay func(name string, depth int)
	lay = func(name string, depth int) {
		rules := theForm.byOf[name]
		if len(rules) == 0 {
			switch name {
			case "NAME":
				name = []string{"a", "b", "x", "_y", longName}[chance.Intn(5)]
			case "NUMBER":
				name = []string{"0", "1", "42", mostNumber}[chance.Intn(4)]
				if chance.Intn(50) == 0 {
					name = overNumber
				}
			case "QUOTED":
				name = []string{`""`, `"a"`, `"\n\x00"`, `"to"`}[chance.Intn(4)]
			}
			out = append(out, name)
			return
		}
		r := theForm.rules[rules[chance.Intn(len(rules))]]
		// What is long, or deep, takes the first way: nothing, or the shortest.
		if len(out) > most || depth > 60 {
			r = theForm.rules[rules[0]]
			if name == "NOT" || name == "UNARY" {
				r = theForm.rules[rules[1]]
			}
		}
		for _, part := range r.parts {
			lay(part, depth+1)
		}
	}
	lay(start, 0)
	return out
}

// met is what is met that is wrong, which ends it all.
type met struct{ fail api.Fail }

// wantNode is a node, and those that it has in the order in which they stand.
type wantNode struct {
	node  api.Expr
	parts []*wantNode
	depth int
}

// mark is what waits for what stands behind it: an operator, or a (.
type mark struct {
	token lex.Token
	level int
	two   bool
}

// wanted says anew what is told of tokens: it goes over them one by one, operators and what they join each on a stack.
type wanted struct {
	tokens []lex.Token
	stray  int
	whole  bool
	marks  []mark
	nodes  []*wantNode
	// The expressions that were met, by the tokens behind them.
	done map[int]*wantNode
}

func (w *wanted) fail(x lex.Token, e api.Errno) {
	panic(met{api.Fail{Err: e, Line: x.Line, Col: x.Col}})
}

// levels are the lines of the form whose operators join two.
var levels = []string{" or ", " and ", "", " == != < <= > >= ", " + - ", " * / % "}

// levelOf is the level of an operator that joins two; -1 of others.
func levelOf(x lex.Token) int {
	if x.Kind != 2 && x.Kind != 5 {
		return -1
	}
	return slices.IndexFunc(levels, func(l string) bool { return strings.Contains(l, " "+x.Text+" ") })
}

// end ends the expressions that hold together at least so strongly, back to the last (.
func (w *wanted) end(level int) {
	for len(w.marks) > 0 {
		m := w.marks[len(w.marks)-1]
		if m.level < level {
			return
		}
		w.marks = w.marks[:len(w.marks)-1]
		count := 1
		op := map[string]int{"not": 4, "-": 5}[m.token.Text]
		if m.two {
			count = 2
			op = map[string]int{"and": 6, "or": 7, "+": 8, "-": 9, "*": 10, "/": 11, "%": 12, "==": 13, "!=": 14, "<": 15, "<=": 16, ">": 15, ">=": 16}[m.token.Text]
		}
		n := &wantNode{node: api.Expr{Op: op, Line: m.token.Line, Col: m.token.Col}, parts: slices.Clone(w.nodes[len(w.nodes)-count:])}
		w.nodes = w.nodes[:len(w.nodes)-count]
		if m.token.Text[0] == '>' {
			slices.Reverse(n.parts)
		}
		for _, x := range n.parts {
			n.depth = max(n.depth, x.depth+1)
		}
		if n.depth > 64 {
			w.fail(m.token, api.ErrDepth)
		}
		w.nodes = append(w.nodes, n)
	}
}

// bracket is the level of a (, which no operator ends.
const bracket = -2

// begin lays a (, a not or a - on the stack, if that many may be open.
func (w *wanted) begin(x lex.Token, level int) {
	open := 1
	for _, m := range w.marks {
		if !m.two {
			open++
		}
	}
	if open > 128 {
		w.fail(x, api.ErrDepth)
	}
	w.marks = append(w.marks, mark{token: x, level: level})
}

// number is the value of a number, behind a - or not.
func (w *wanted) number(x lex.Token, minus bool) api.Value {
	n, _ := new(big.Int).SetString(x.Text, 10)
	if minus {
		n.Neg(n)
	}
	if !n.IsInt64() {
		w.fail(x, api.ErrRange)
	}
	return api.Value{Kind: 1, Int: n.Int64()}
}

// valueAt is the value that begins with a token, and of how many tokens it is; 0, if none does.
func (w *wanted) valueAt(at int) (api.Value, int) {
	x := w.tokens[at]
	switch classOf(x) {
	case "-":
		if at+1 < len(w.tokens) && w.tokens[at+1].Kind == 3 {
			return w.number(w.tokens[at+1], true), 2
		}
	case "NUMBER":
		return w.number(x, false), 1
	case "QUOTED":
		return api.Value{Kind: 2, Str: x.Text}, 1
	case "true", "false":
		return api.Value{Kind: 3, Bool: x.Text == "true"}, 1
	}
	return api.Value{}, 0
}

// syntax tells that a token can't stand there, or, behind them all, that something is missing.
func (w *wanted) syntax(at int) {
	if at == w.stray && at < len(w.tokens) {
		w.fail(w.tokens[at], api.ErrSyntax)
	}
	if at == len(w.tokens) && !w.whole {
		w.fail(append([]lex.Token{{Line: 1, Col: 1}}, w.tokens...)[at], api.ErrSyntax)
	}
}

// expr goes over the tokens of an expression, from one on, and tells the token behind.
func (w *wanted) expr(at int) int {
	w.marks, w.nodes = nil, nil
	joins := false // whether an expression stands ahead, which an operator may join
	for ; ; at++ {
		if joins {
			level := -1
			if at < w.stray {
				level = levelOf(w.tokens[at])
			}
			// What comes next ends what holds together as strongly, or more; what joins nothing ends all, up to the last (.
			w.end(level)
			w.syntax(at)
			switch {
			case at == len(w.tokens):
				return at
			case level >= 0:
				w.marks = append(w.marks, mark{token: w.tokens[at], level: level, two: true})
				joins = false
				continue
			case w.tokens[at].Kind == 5 && w.tokens[at].Text == ")":
				w.marks = w.marks[:len(w.marks)-1]
				continue
			}
			return at
		}
		// Whether a - is a value's is seen from what stands behind it; else it is met as it is, ahead of what is missing behind.
		w.syntax(at)
		x := w.tokens[at]
		n := &wantNode{node: api.Expr{Line: x.Line, Col: x.Col}, depth: 1}
		if v, size := w.valueAt(at); size > 0 {
			n.node.Op, n.node.Value = 1, v
			at += size - 1
			w.nodes, joins = append(w.nodes, n), true
			continue
		}
		switch classOf(x) {
		case "NAME":
			n.node.Op, n.node.Name = 17, x.Text
			w.nodes, joins = append(w.nodes, n), true
		case "not":
			w.begin(x, 2)
		case "-":
			w.begin(x, 6)
		case "(":
			w.begin(x, bracket)
		}
	}
}

// lay lays a node, and those that it has, behind others.
func lay(l []api.Expr, n *wantNode) []api.Expr {
	var roots []int
	for _, x := range n.parts {
		l = lay(l, x)
		roots = append(roots, len(l)-1)
	}
	node := n.node
	if len(roots) > 0 {
		node.A = roots[0]
	}
	if len(roots) > 1 {
		node.B = roots[1]
	}
	return append(l, node)
}

// meet goes over all tokens of a text, for what is wrong, and the expressions.
func (w *wanted) meet() {
	started, arg := false, 0
	for at := 0; ; {
		w.syntax(at)
		if at == len(w.tokens) {
			return
		}
		x := w.tokens[at]
		class := classOf(x)
		started = started || class == "start"
		at++
		switch {
		case class == "if" || class == "=" && started:
			end := w.expr(at)
			w.done[at] = w.nodes[0]
			at = end
		case class == "=" || class == "(" || class == ",":
			arg = at
		case class == "NUMBER":
			w.number(x, at-2 >= arg && w.tokens[at-2].Text == "-" && w.tokens[at-2].Kind == 5)
		}
	}
}

// wantExpr says anew which nodes a text's expression has, or what is wrong with it.
func wantExpr(s string) (l []api.Expr, wrong api.Fail) {
	tokens, f := lex.All(s)
	if f != (api.Fail{}) {
		return nil, f
	}
	defer func() { wrong = whatIsMet(recover()) }()
	w := newWanted(tokens, "EXPR")
	w.expr(0)
	return lay(nil, w.nodes[0]), api.Fail{}
}

// wantTree says anew which tree a text has, or what is wrong with it.
func wantTree(s string) (tree api.Tree, wrong api.Fail) {
	tokens, f := lex.All(s)
	if f != (api.Fail{}) {
		return tree, f
	}
	defer func() { wrong = whatIsMet(recover()) }()
	w := newWanted(tokens, "spec")
	w.meet()
	return w.tree(), api.Fail{}
}

func newWanted(tokens []lex.Token, start string) *wanted {
	var classes []string
	for _, x := range tokens {
		classes = append(classes, classOf(x))
	}
	w := &wanted{tokens: tokens, done: map[int]*wantNode{}}
	w.stray, w.whole = theForm.place(start, classes)
	return w
}

// whatIsMet is what was met that is wrong.
func whatIsMet(x any) api.Fail {
	if x == nil {
		return api.Fail{}
	}
	m, ok := x.(met)
	if !ok {
		panic(x)
	}
	return m.fail
}

// symbolAt is the symbol that begins with a token, and the token behind it.
func (w *wanted) symbolAt(at int) (api.TreeSymbol, int) {
	x := w.tokens[at]
	s := api.TreeSymbol{Name: x.Text, Line: x.Line, Col: x.Col}
	for at += 2; ; at++ {
		x := w.tokens[at]
		arg := api.TreeArg{Line: x.Line, Col: x.Col}
		switch class := classOf(x); class {
		case ")":
			return s, at + 1
		case ",":
			continue
		case "_":
			arg.Kind = 3
		case "NAME":
			arg.Kind, arg.Name = 2, x.Text
		default:
			arg.Kind = 1
			size := 0
			arg.Value, size = w.valueAt(at)
			at += size - 1
		}
		s.Args = append(s.Args, arg)
	}
}

// transAt is the transition that begins with a token, and the token behind it.
func (w *wanted) transAt(at int) (api.TreeTrans, int) {
	x := api.TreeTrans{From: w.ident(at), Guard: -1}
	for x.On, at = w.symbolAt(at + 2); ; {
		class := classOf(w.tokens[at])
		at++
		switch class {
		case "if":
			x.Nodes = lay(x.Nodes, w.done[at])
			x.Guard = len(x.Nodes) - 1
		case "do", ",":
			x.Nodes = lay(x.Nodes, w.done[at+2])
			x.Sets = append(x.Sets, api.TreeSet{Name: w.ident(at), Expr: len(x.Nodes) - 1})
		case "to":
			x.To = w.ident(at)
			return x, at + 1
		}
	}
}

// ident is the name that a token is.
func (w *wanted) ident(at int) api.Ident {
	return api.Ident{Text: w.tokens[at].Text, Line: w.tokens[at].Line, Col: w.tokens[at].Col}
}

// tree is the tree of tokens with which nothing is wrong.
func (w *wanted) tree() api.Tree {
	s := api.Tree{Name: w.ident(1)}
	kinds := map[string]int{"int": 1, "string": 2, "bool": 3}
	for at := 2; at < len(w.tokens); {
		class := classOf(w.tokens[at])
		if class == "NAME" {
			var x api.TreeTrans
			x, at = w.transAt(at)
			s.Trans = append(s.Trans, x)
			continue
		}
		at++
		name := w.ident(at)
		switch class {
		case "event":
			d := api.TreeDecl{Name: name}
			for at++; classOf(w.tokens[at]) != ")"; at++ {
				if kind := kinds[classOf(w.tokens[at])]; kind > 0 {
					d.Types = append(d.Types, kind)
				}
			}
			s.Decls = append(s.Decls, d)
		case "forall", "exists":
			at += 2
			s.Quants = append(s.Quants, api.TreeQuant{All: class == "forall", Name: name, Type: kinds[classOf(w.tokens[at])]})
		case "free":
			v, size := w.valueAt(at + 2)
			at += 1 + size
			s.Frees = append(s.Frees, api.TreeFree{Name: name, Value: v})
		case "skip", "next":
			accept := classOf(w.tokens[at+1]) == "accept"
			if accept {
				at++
			}
			s.States = append(s.States, api.TreeState{Name: name, Next: class == "next", Accept: accept})
		case "start":
			s.Start = name
		case "also":
			var x api.TreeSymbol
			x, at = w.symbolAt(at)
			s.Also = append(s.Also, x)
			continue
		}
		at++
	}
	return s
}
