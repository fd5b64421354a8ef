package parse

import (
	"proctor/api"
	"proctor/lex"
	"proctor/tree"
)

// maxOpen is how many (, not and - may be open.
const maxOpen = 128

// expr is an expression: its nodes, which have no roots yet, and how deep it is. There is one behind what is wrong, too: of one node, whatever that is.
type expr struct {
	nodes []api.Expr
	depth int
}

// linked are the nodes of expressions in a row, with the roots of what each one has laid into it.
func linked(nodes []api.Expr) []api.Expr {
	// What a node has stands just ahead of it, so it has the last roots that no other one has.
	var roots []int
	pop := func() int {
		last := len(roots) - 1
		root := roots[last]
		roots = roots[:last]
		return root
	}
	for i := range nodes {
		switch n := &nodes[i]; n.Op {
		case api.OpConst, tree.OpName:
		case api.OpNot, api.OpNeg:
			n.A = pop()
		default:
			n.B = pop()
			n.A = pop()
		}
		roots = append(roots, i)
	}
	return nodes
}

// leaf is the expression that a value or a name is, at its first token.
func leaf(t lex.Token, n api.Expr) expr {
	n.Line, n.Col = t.Line, t.Col
	return expr{nodes: []api.Expr{n}, depth: 1}
}

// over is the expression that an operator, at its token, has of others.
func (p *parser) over(t lex.Token, op int, parts ...expr) expr {
	var whole expr
	for _, part := range parts {
		whole.nodes = append(whole.nodes, part.nodes...)
		whole.depth = max(whole.depth, part.depth)
	}
	whole.nodes = append(whole.nodes, api.Expr{Op: op, Line: t.Line, Col: t.Col})
	whole.depth++
	if whole.depth > api.MaxDepth {
		p.fail(t, api.ErrDepth)
	}
	return whole
}

// within is what stands behind a (, not or -, while that is open.
func (p *parser) within(t lex.Token, inner func() expr) expr {
	p.open++
	if p.open > maxOpen {
		p.fail(t, api.ErrDepth)
	}
	e := inner()
	p.open--
	return e
}

// joined is what operators of one line join, from the left: next tells which of them comes next, 0 that none does.
func (p *parser) joined(part func() expr, next func() int) expr {
	left := part()
	for {
		op := next()
		if op == 0 {
			return left
		}
		t := p.take()
		left = p.over(t, op, left, part())
	}
}

// or is an expression, of whatever operators.
func (p *parser) or() expr { return p.joined(p.and, p.nextOr) }

// and is an expression that holds together at least as and does.
func (p *parser) and() expr { return p.joined(p.not, p.nextAnd) }

// not is an expression that holds together at least as not does.
func (p *parser) not() expr {
	if !p.comes("not") {
		return p.comparison()
	}
	t := p.take()
	return p.over(t, api.OpNot, p.within(t, p.not))
}

// comparison is an expression that holds together at least as a comparison does, of which there are no two in a row.
func (p *parser) comparison() expr {
	a := p.sum()
	op, turned := p.nextComparison()
	if op == 0 {
		return a
	}
	t := p.take()
	b := p.sum()
	if turned {
		a, b = b, a
	}
	return p.over(t, op, a, b)
}

// sum is an expression that holds together at least as + and - do.
func (p *parser) sum() expr { return p.joined(p.product, p.nextSum) }

// product is an expression that holds together at least as *, / and % do.
func (p *parser) product() expr { return p.joined(p.unary, p.nextProduct) }

// unary is an expression that holds together at least as the sign - does.
func (p *parser) unary() expr {
	t := p.peek()
	switch {
	case p.comes("-") && p.ahead(1).Kind != lex.Number:
		p.take()
		return p.over(t, api.OpNeg, p.within(t, p.unary))
	case p.takes("("):
		e := p.within(t, p.or)
		p.must(")")
		return e
	case isName(t):
		p.take()
		return leaf(t, api.Expr{Op: tree.OpName, Name: t.Text})
	}
	return leaf(t, api.Expr{Op: api.OpConst, Value: p.value()})
}

// nextOr is or's operator, if that comes next.
func (p *parser) nextOr() int {
	if p.comes("or") {
		return api.OpOr
	}
	return 0
}

// nextAnd is and's operator, if that comes next.
func (p *parser) nextAnd() int {
	if p.comes("and") {
		return api.OpAnd
	}
	return 0
}

// nextComparison is the operator of the comparison that comes next, if one does, and whether what it compares stands the other way round.
func (p *parser) nextComparison() (op int, turned bool) {
	switch {
	case p.comes("=="):
		return api.OpEq, false
	case p.comes("!="):
		return api.OpNe, false
	case p.comes("<"):
		return api.OpLt, false
	case p.comes("<="):
		return api.OpLe, false
	case p.comes(">"):
		return api.OpLt, true
	case p.comes(">="):
		return api.OpLe, true
	}
	return 0, false
}

// nextSum is the operator of + or -, if one comes next.
func (p *parser) nextSum() int {
	switch {
	case p.comes("+"):
		return api.OpAdd
	case p.comes("-"):
		return api.OpSub
	}
	return 0
}

// nextProduct is the operator of *, / or %, if one comes next.
func (p *parser) nextProduct() int {
	switch {
	case p.comes("*"):
		return api.OpMul
	case p.comes("/"):
		return api.OpDiv
	case p.comes("%"):
		return api.OpMod
	}
	return 0
}
