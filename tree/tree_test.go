package tree_test

import (
	"fmt"
	"math"
	"math/rand"
	"reflect"
	"regexp"
	"slices"
	"strconv"
	"strings"
	"testing"

	"proctor/api"
	"proctor/tree"
	"proctor/value"
)

// The words, as chapter 7 has them, and how a name is spelt, said anew.
var (
	words = strings.Split("accept, also, and, bool, do, event, exists, false, forall, free, if, int, next, not, on, or, qea, skip, start, string, to, true", ", ")
	spelt = regexp.MustCompile(`\A[A-Za-z_][A-Za-z0-9_]{0,31}\z`)
)

// Numbers of operators, by how many expressions they have, and numbers that are no operator's.
var (
	leafOps = []int{1, 17}
	oneOps  = []int{4, 5}
	twoOps  = []int{6, 7, 8, 9, 10, 11, 12, 13, 14, 15, 16}
	noOps   = []int{math.MinInt, -17, -1, 0, 2, 3, 18, 19, 33, 273, math.MaxInt}
)

// Texts that are names, and that are none.
var (
	goodNames = []string{"x", "Z", "_x", "__", "If", "a_0", strings.Repeat("n", 32)}
	badNames  = []string{"", "_", "if", "qea", "true", "0", "9x", "a b", "a-b", " a", "a\n", "\x80", "a\x00", "\u00e9", strings.Repeat("n", 33)}
)

// Values that may be, and that may not be.
var (
	goodValues = []api.Value{
		{Kind: 1}, {Kind: 1, Int: -5}, {Kind: 1, Int: math.MinInt64}, {Kind: 1, Int: math.MaxInt64},
		{Kind: 2}, {Kind: 2, Str: "if"}, {Kind: 2, Str: strings.Repeat("x", 4096)}, {Kind: 3}, {Kind: 3, Bool: true},
	}
	badValues = []api.Value{
		{}, {Kind: -1}, {Kind: 4}, {Int: 5}, {Str: "a"}, {Bool: true},
		{Kind: 1, Str: "a"}, {Kind: 1, Bool: true}, {Kind: 2, Int: 1}, {Kind: 2, Bool: true}, {Kind: 3, Int: 1}, {Kind: 3, Str: "a"},
		{Kind: 2, Str: strings.Repeat("x", 4097)},
	}
)

// brief is how a thing is shown, cut where it is too long to be read.
func brief(x any) string {
	s := fmt.Sprintf("%+v", x)
	return strings.ToValidUTF8(s[:min(len(s), 2000)], "?")
}

// name, number, one and two are nodes.
func name(s string) api.Expr    { return api.Expr{Op: 17, Name: s} }
func number(n int64) api.Expr   { return api.Expr{Op: 1, Value: value.Int(n)} }
func one(op, a int) api.Expr    { return api.Expr{Op: op, A: a} }
func two(op, a, b int) api.Expr { return api.Expr{Op: op, A: a, B: b} }

// behind are an expression's nodes, as they stand behind that many others.
func behind(l []api.Expr, by int) []api.Expr {
	moved := slices.Clone(l)
	for i, n := range moved {
		if slices.Contains(oneOps, n.Op) {
			moved[i].A += by
		}
		if slices.Contains(twoOps, n.Op) {
			moved[i].A, moved[i].B = n.A+by, n.B+by
		}
	}
	return moved
}

// join are expressions joined by an operator that has as many.
func join(op int, l ...[]api.Expr) []api.Expr {
	var joined []api.Expr
	var roots []int
	for _, x := range l {
		joined = append(joined, behind(x, len(joined))...)
		roots = append(roots, len(joined)-1)
	}
	n := api.Expr{Op: op, A: roots[0]}
	if len(roots) == 2 {
		n.B = roots[1]
	}
	return append(joined, n)
}

// chain is an expression that is as deep as asked for: of OpNot alone, or deeper on the left, or on the right.
func chain(depth int, way string) []api.Expr {
	l := []api.Expr{name("x")}
	for d := 1; d < depth; d++ {
		switch way {
		case "not":
			l = append(l, one(4, len(l)-1))
		case "left":
			l = append(l, name("y"), two(8, len(l)-1, len(l)))
		case "right":
			l = join(8, []api.Expr{name("y")}, l)
		}
	}
	return l
}

// isName tells anew whether a text is a name.
func isName(s string) bool { return spelt.MatchString(s) && s != "_" && !slices.Contains(words, s) }

// isValue tells anew whether a value may be.
func isValue(v api.Value) bool {
	switch {
	case v.Kind == 1:
		return v.Str == "" && !v.Bool
	case v.Kind == 2:
		return v.Int == 0 && !v.Bool && len(v.Str) <= 4096
	}
	return v.Kind == 3 && v.Int == 0 && v.Str == ""
}

// shape says anew, straight from the chapter's words, of how many nodes the expression at a place is, and how deep.
func shape(l []api.Expr, at int) (int, int) {
	if at < 0 || at >= len(l) {
		return 0, 0
	}
	n, none := l[at], api.Value{}
	switch {
	case n.Op == 1:
		if n.A == 0 && n.B == 0 && n.Name == "" && isValue(n.Value) {
			return 1, 1
		}
	case n.Op == 17:
		if n.A == 0 && n.B == 0 && n.Value == none && isName(n.Name) {
			return 1, 1
		}
	case slices.Contains(oneOps, n.Op):
		if size, depth := shape(l, at-1); size > 0 && n.A == at-1 && n.B == 0 && n.Name == "" && n.Value == none {
			return size + 1, depth + 1
		}
	case slices.Contains(twoOps, n.Op):
		right, deep := shape(l, at-1)
		left, depth := shape(l, at-1-right)
		if right > 0 && left > 0 && n.B == at-1 && n.A == at-1-right && n.Name == "" && n.Value == none {
			return left + right + 1, max(depth, deep) + 1
		}
	}
	return 0, 0
}

// mayBe says anew, straight from the chapter's words, whether a tree may be.
func mayBe(s api.Tree) bool {
	right := isName(s.Name.Text) && isName(s.Start.Text)
	for _, d := range s.Decls {
		right = right && isName(d.Name.Text)
		for _, kind := range d.Types {
			right = right && kind >= 1 && kind <= 3
		}
	}
	for _, q := range s.Quants {
		right = right && isName(q.Name.Text) && q.Type >= 1 && q.Type <= 3
	}
	for _, f := range s.Frees {
		right = right && isName(f.Name.Text) && isValue(f.Value)
	}
	for _, x := range s.States {
		right = right && isName(x.Name.Text)
	}
	for _, x := range s.Also {
		right = right && mayBeSymbol(x)
	}
	for _, x := range s.Trans {
		right = right && mayBeTrans(x)
	}
	return right
}

// mayBeSymbol says anew whether a symbol may be.
func mayBeSymbol(s api.TreeSymbol) bool {
	right := isName(s.Name)
	for _, a := range s.Args {
		switch {
		case a.Kind == 1:
			right = right && a.Name == "" && isValue(a.Value)
		case a.Kind == 2:
			right = right && a.Value == (api.Value{}) && isName(a.Name)
		default:
			right = right && a.Kind == 3 && a.Name == "" && a.Value == (api.Value{})
		}
	}
	return right
}

// mayBeTrans says anew whether a transition may be: each node is that of just one expression.
func mayBeTrans(x api.TreeTrans) bool {
	right := isName(x.From.Text) && isName(x.To.Text) && mayBeSymbol(x.On)
	var roots []int
	if x.Guard != -1 {
		roots = append(roots, x.Guard)
	}
	for _, set := range x.Sets {
		right = right && isName(set.Name.Text)
		roots = append(roots, set.Expr)
	}
	var owned []int
	for _, root := range roots {
		size, depth := shape(x.Nodes, root)
		right = right && size > 0 && depth <= 64
		for i := range size {
			owned = append(owned, root-size+1+i)
		}
	}
	for i, at := range owned {
		right = right && i == at
	}
	return right && len(owned) == len(x.Nodes)
}

// checkNodes holds what is told of nodes, at each place and beside them, against the chapter's words, said anew; they stay as they were.
func checkNodes(t *testing.T, l []api.Expr) {
	t.Helper()
	was := slices.Clone(l)
	for _, at := range append(slices.Collect(countTo(len(l)+3)), -2, math.MinInt, math.MaxInt) {
		size, depth := shape(l, at)
		if got := tree.Size(l, at); got != size {
			t.Fatalf("Size(%s, %d) = %d, not %d", brief(l), at, got, size)
		}
		if got := tree.Depth(l, at); got != depth {
			t.Fatalf("Depth(%s, %d) = %d, not %d", brief(l), at, got, depth)
		}
	}
	if !slices.Equal(l, was) {
		t.Fatalf("%s was changed to %s", brief(was), brief(l))
	}
}

// countTo counts from -1 on up to what is ahead of a number.
func countTo(n int) func(yield func(int) bool) {
	return func(yield func(int) bool) {
		for i := -1; i < n && yield(i); i++ {
		}
	}
}

// checkShape holds Size and Depth of the node at a place against what is said.
func checkShape(t *testing.T, l []api.Expr, at, size, depth int) {
	t.Helper()
	if s, d := tree.Size(l, at), tree.Depth(l, at); s != size || d != depth {
		t.Fatalf("Size, Depth(%s, %d) = %d, %d, not %d, %d", brief(l), at, s, d, size, depth)
	}
}

// The constants are as given.
func TestConstants(t *testing.T) {
	if tree.OpName != 17 || tree.Const != 1 || tree.Named != 2 || tree.Any != 3 {
		t.Fatal(tree.OpName, tree.Const, tree.Named, tree.Any)
	}
}

// 10.1: where no node is there is no expression.
func TestNoNode(t *testing.T) {
	for _, l := range [][]api.Expr{nil, {}, {number(5)}, {name("x"), one(4, 0)}} {
		for _, at := range []int{math.MinInt, -2, -1, len(l), len(l) + 1, math.MaxInt} {
			checkShape(t, l, at, 0, 0)
		}
	}
}

// 10.1: each operator, with one expression and with two; numbers that are no operator's.
func TestOperators(t *testing.T) {
	for _, op := range oneOps {
		checkShape(t, []api.Expr{name("x"), one(op, 0)}, 1, 2, 2)
		checkShape(t, []api.Expr{name("y"), name("x"), one(op, 1)}, 2, 2, 2)
		checkShape(t, []api.Expr{name("x"), number(5), two(op, 0, 1)}, 2, 0, 0)
	}
	for _, op := range twoOps {
		checkShape(t, []api.Expr{name("x"), number(5), two(op, 0, 1)}, 2, 3, 2)
		checkShape(t, []api.Expr{name("y"), name("x"), number(5), two(op, 1, 2)}, 3, 3, 2)
		checkShape(t, []api.Expr{name("x"), one(op, 0)}, 1, 0, 0)
		checkShape(t, []api.Expr{name("x"), two(op, 0, 0)}, 1, 0, 0)
		checkShape(t, []api.Expr{name("x"), two(op, -1, 0)}, 1, 0, 0)
	}
	for _, op := range noOps {
		for _, n := range []api.Expr{{Op: op}, {Op: op, A: 1}, {Op: op, A: 0, B: 1}, {Op: op, Name: "x"}, {Op: op, Value: value.Int(5)}} {
			checkShape(t, []api.Expr{name("x"), number(5), n}, 2, 0, 0)
			checkShape(t, []api.Expr{n}, 0, 0, 0)
		}
	}
}

// 10.1: values and names are expressions, others are none, by themselves and within others.
func TestLeaves(t *testing.T) {
	check := func(n api.Expr, size, depth int) {
		t.Helper()
		checkShape(t, []api.Expr{n}, 0, size, depth)
		checkShape(t, []api.Expr{number(1), n, number(2)}, 1, size, depth)
		for _, op := range oneOps {
			checkShape(t, []api.Expr{n, one(op, 0)}, 1, 2*size, 2*depth)
		}
		for _, op := range twoOps {
			checkShape(t, []api.Expr{n, number(2), two(op, 0, 1)}, 2, 3*size, 2*depth)
			checkShape(t, []api.Expr{number(2), n, two(op, 0, 1)}, 2, 3*size, 2*depth)
		}
	}
	for _, v := range goodValues {
		check(api.Expr{Op: 1, Value: v}, 1, 1)
	}
	for _, v := range badValues {
		check(api.Expr{Op: 1, Value: v}, 0, 0)
	}
	for _, s := range goodNames {
		check(name(s), 1, 1)
	}
	for _, s := range badNames {
		check(name(s), 0, 0)
	}
	for _, n := range []api.Expr{number(5), name("x")} {
		n.Line, n.Col = 7, -8
		check(n, 1, 1)
	}
}

// 10.1: what a node's operator has not is zero.
func TestFieldsThatAreNot(t *testing.T) {
	nodes := []api.Expr{name("x"), number(5), {Op: 1, Value: value.Str("x")}, {Op: 1, Value: value.Bool(false)}, name("y")}
	for _, op := range leafOps {
		n := map[int]api.Expr{1: number(5), 17: name("x")}[op]
		for _, by := range []int{math.MinInt, -1, 1, math.MaxInt} {
			a, b := n, n
			a.A, b.B = by, by
			checkShape(t, []api.Expr{a}, 0, 0, 0)
			checkShape(t, []api.Expr{b}, 0, 0, 0)
		}
	}
	withName, withValue := number(5), name("x")
	withName.Name, withValue.Value = "x", value.Int(5)
	checkShape(t, []api.Expr{withName}, 0, 0, 0)
	checkShape(t, []api.Expr{withValue}, 0, 0, 0)
	for _, op := range slices.Concat(oneOps, twoOps) {
		n, size := two(op, 3, 4), 3
		if slices.Contains(oneOps, op) {
			n, size = one(op, 4), 2
		}
		l := append(slices.Clone(nodes), n)
		at := len(l) - 1
		checkShape(t, l, at, size, 2)
		for _, v := range slices.Concat(goodValues, badValues) {
			l[at].Value = v
			if v != (api.Value{}) {
				checkShape(t, l, at, 0, 0)
			}
		}
		for _, s := range slices.Concat(goodNames, badNames[1:]) {
			l[at] = n
			l[at].Name = s
			checkShape(t, l, at, 0, 0)
		}
		l[at] = n
		l[at].Line, l[at].Col = -1, math.MaxInt
		checkShape(t, l, at, size, 2)
	}
}

// 10.1: roots that are not just where an operator's expressions must stand.
func TestRoots(t *testing.T) {
	beside := func(right, at, end int) []int {
		roots := []int{right - 1, right + 1, -1, -2, at, at + 1, end, end + 1, math.MinInt, math.MaxInt}
		return slices.DeleteFunc(roots, func(root int) bool { return root == right })
	}
	first := []api.Expr{name("a"), name("b"), two(8, 0, 1)}
	for _, op := range oneOps {
		l := slices.Concat(first, []api.Expr{one(op, 2), name("c")})
		checkShape(t, l, 3, 4, 3)
		for _, root := range beside(2, 3, len(l)) {
			l[3] = one(op, root)
			checkShape(t, l, 3, 0, 0)
		}
		for _, root := range []int{1, 2, 3, -1, math.MinInt, math.MaxInt} {
			l[3] = two(op, 2, root)
			checkShape(t, l, 3, 0, 0)
		}
	}
	for _, op := range twoOps {
		l := slices.Concat([]api.Expr{name("z")}, behind(first, 1), []api.Expr{name("c"), one(5, 4), two(op, 3, 5), name("d")})
		checkShape(t, l, 6, 6, 3)
		for _, root := range beside(3, 6, len(l)) {
			l[6] = two(op, root, 5)
			checkShape(t, l, 6, 0, 0)
		}
		for _, root := range beside(5, 6, len(l)) {
			l[6] = two(op, 3, root)
			checkShape(t, l, 6, 0, 0)
		}
		l[6] = two(op, 5, 3)
		checkShape(t, l, 6, 0, 0)
	}
	for _, op := range slices.Concat(oneOps, twoOps) {
		checkShape(t, []api.Expr{{Op: op}}, 0, 0, 0)
		checkShape(t, []api.Expr{{Op: op, A: -1}}, 0, 0, 0)
		checkShape(t, []api.Expr{{Op: op, A: -1, B: -1}}, 0, 0, 0)
		checkShape(t, []api.Expr{{Op: op, A: -2, B: -1}}, 0, 0, 0)
	}
}

// 10.1: expressions in a row, and within one another.
func TestExpressionsInARow(t *testing.T) {
	l := []api.Expr{name("b"), one(5, 0), name("a"), number(2), two(8, 2, 3), two(15, 1, 4), name("x"), one(4, 6), one(4, 7), number(1)}
	for at, want := range [][2]int{{1, 1}, {2, 2}, {1, 1}, {1, 1}, {3, 2}, {6, 3}, {1, 1}, {2, 2}, {3, 3}, {1, 1}} {
		checkShape(t, l, at, want[0], want[1])
	}
	// Each node that is changed for what is none takes away just the expressions that it is of.
	for i := range l {
		changed := slices.Clone(l)
		changed[i].Op = 3
		for at := range l {
			size, depth := shape(l, at)
			if at >= i && at-size < i {
				size, depth = 0, 0
			}
			checkShape(t, changed, at, size, depth)
		}
	}
}

// 10.1: depths to the left, to the right, and of OpNot alone, and far deeper ones than a tree's.
func TestDepths(t *testing.T) {
	for _, depth := range []int{1, 2, 3, 63, 64, 65, 66, 200} {
		for _, way := range []string{"not", "left", "right"} {
			l := chain(depth, way)
			size := depth
			if way != "not" {
				size = 2*depth - 1
			}
			checkShape(t, l, len(l)-1, size, depth)
			s := least()
			s.Trans = []api.TreeTrans{{From: s.Start, To: s.Start, On: api.TreeSymbol{Name: "e"}, Nodes: l, Guard: len(l) - 1}}
			checkTree(t, s, depth <= 64)
			s.Trans[0].Guard, s.Trans[0].Sets = -1, []api.TreeSet{{Name: api.Ident{Text: "f"}, Expr: len(l) - 1}}
			checkTree(t, s, depth <= 64)
		}
	}
	for _, way := range []string{"not", "left"} {
		l := chain(1<<16, way)
		if got := tree.Depth(l, len(l)-1); got != 1<<16 {
			t.Errorf("%s: %d", way, got)
		}
		if got := tree.Size(l, len(l)-1); got != len(l) {
			t.Errorf("%s: %d", way, got)
		}
	}
	const names = 1 << 16
	l := slices.Repeat([]api.Expr{name("x")}, names)
	for i := range names - 1 {
		l = append(l, two(8, names-2-i, names-1+i))
	}
	if size, depth := tree.Size(l, len(l)-1), tree.Depth(l, len(l)-1); size != len(l) || depth != names {
		t.Errorf("right: %d, %d", size, depth)
	}
}

// someExpr is an expression made by chance, at most so deep.
func someExpr(chance *rand.Rand, depth int) []api.Expr {
	switch kind := chance.Intn(5); {
	case depth == 1 || kind == 0:
		if chance.Intn(2) == 0 {
			return []api.Expr{name(goodNames[chance.Intn(len(goodNames))])}
		}
		return []api.Expr{{Op: 1, Value: goodValues[chance.Intn(len(goodValues))]}}
	case kind == 1:
		return join(oneOps[chance.Intn(len(oneOps))], someExpr(chance, depth-1))
	}
	return join(twoOps[chance.Intn(len(twoOps))], someExpr(chance, depth-1), someExpr(chance, depth-1))
}

// changeNode changes one field of a node by chance.
func changeNode(chance *rand.Rand, n *api.Expr) {
	switch chance.Intn(9) {
	case 0:
		n.A += chance.Intn(5) - 2
	case 1:
		n.B += chance.Intn(5) - 2
	case 2:
		n.A, n.B = n.B, n.A
	case 3:
		n.Op = chance.Intn(20) - 1
	case 4:
		n.Name = append(goodNames, badNames...)[chance.Intn(len(goodNames)+len(badNames))]
	case 5:
		n.Value = append(goodValues, badValues...)[chance.Intn(len(goodValues)+len(badValues))]
	case 6:
		n.Line, n.Col = chance.Intn(3)-1, chance.Intn(3)-1
	case 7:
		n.A, n.B, n.Name, n.Value = 0, 0, "", api.Value{}
	case 8:
		n.A, n.B = chance.Intn(12)-1, chance.Intn(12)-1
	}
}

// 10.1: expressions made by chance, in a row, as they are, cut, and changed.
func TestManyNodes(t *testing.T) {
	chance := rand.New(rand.NewSource(10))
	for range 4000 {
		var l []api.Expr
		for range 1 + chance.Intn(3) {
			x := someExpr(chance, 1+chance.Intn(5))
			if size, _ := shape(x, len(x)-1); size != len(x) {
				t.Fatalf("%s is no expression", brief(x))
			}
			l = append(l, behind(x, len(l))...)
		}
		checkNodes(t, l)
		from := chance.Intn(len(l))
		checkNodes(t, l[from:])
		checkNodes(t, behind(l[from:], -from))
		for range 6 {
			changeNode(chance, &l[chance.Intn(len(l))])
			checkNodes(t, l)
		}
	}
}

// 10.1: all lists of up to three nodes, of a kind each, with roots at and beside their places.
func TestShortLists(t *testing.T) {
	nodes := []api.Expr{name("x"), name("if"), number(5), {Op: 1}, {Op: 2}}
	for a := -1; a < 4; a++ {
		nodes = append(nodes, api.Expr{Op: 4, A: a}, api.Expr{Op: 5, A: a, B: 1}, api.Expr{Op: 17, A: a, Name: "x"})
		for b := -1; b < 4; b++ {
			nodes = append(nodes, two(8, a, b))
		}
	}
	for _, x := range nodes {
		checkNodes(t, []api.Expr{x})
		for _, y := range nodes {
			checkNodes(t, []api.Expr{x, y})
			for _, z := range nodes {
				checkNodes(t, []api.Expr{x, y, z})
			}
		}
	}
}

// least is the least tree there is.
func least() api.Tree {
	return api.Tree{Name: api.Ident{Text: "a"}, Start: api.Ident{Text: "s"}}
}

// full is a tree that has two of each thing, each with a place of its own.
func full() api.Tree {
	col := 0
	id := func(s string) api.Ident {
		col++
		return api.Ident{Text: s, Line: 100 + col, Col: col}
	}
	arg := func(kind int, s string, v api.Value) api.TreeArg {
		col++
		return api.TreeArg{Kind: kind, Name: s, Value: v, Line: 100 + col, Col: col}
	}
	symbol := func(s string, l ...api.TreeArg) api.TreeSymbol {
		col++
		return api.TreeSymbol{Name: s, Args: l, Line: 100 + col, Col: col}
	}
	nodes := func(l ...api.Expr) []api.Expr {
		for i := range l {
			col++
			l[i].Line, l[i].Col = 100+col, col
		}
		return l
	}
	none := api.Value{}
	return api.Tree{
		Name:   id("a"),
		Decls:  []api.TreeDecl{{Name: id("open"), Types: []int{2, 1}}, {Name: id("close"), Types: []int{3, 2, 1}}},
		Quants: []api.TreeQuant{{All: true, Name: id("x"), Type: 2}, {Name: id("y"), Type: 1}},
		Frees:  []api.TreeFree{{Name: id("f"), Value: value.Int(-7)}, {Name: id("g"), Value: value.Str("g")}, {Name: id("h"), Value: value.Bool(true)}},
		States: []api.TreeState{{Name: id("s"), Accept: true}, {Name: id("w"), Next: true}},
		Start:  id("s"),
		Also:   []api.TreeSymbol{symbol("open", arg(1, "", value.Str("k")), arg(3, "", none)), symbol("close", arg(2, "h", none), arg(2, "x", none), arg(1, "", value.Int(3)))},
		Trans: []api.TreeTrans{
			{
				From: id("s"), To: id("w"), On: symbol("open", arg(2, "x", none), arg(2, "y", none)),
				Nodes: nodes(name("f"), number(2), two(8, 0, 1), name("y"), two(15, 2, 3), name("f"), one(5, 5), api.Expr{Op: 1, Value: value.Str("")}),
				Guard: 4, Sets: []api.TreeSet{{Name: id("f"), Expr: 6}, {Name: id("g"), Expr: 7}},
			},
			{
				From: id("w"), To: id("s"), On: symbol("close", arg(1, "", value.Bool(false)), arg(3, "", none), arg(2, "f", none)),
				Nodes: nodes(name("h"), one(4, 0), number(1), number(6), two(11, 2, 3)),
				Guard: -1, Sets: []api.TreeSet{{Name: id("h"), Expr: 1}, {Name: id("f"), Expr: 4}},
			},
			{
				From: id("w"), To: id("w"), On: symbol("open", arg(3, "", none), arg(3, "", none)),
				Nodes: nodes(name("x"), api.Expr{Op: 1, Value: value.Str("x")}, two(14, 0, 1)), Guard: 2,
			},
			{From: id("s"), To: id("s"), On: symbol("open", arg(3, "", none), arg(3, "", none)), Guard: -1},
		},
	}
}

// part is a part of a tree, where it is, and itself.
type part struct {
	path string
	v    reflect.Value
}

// parts are all parts of a tree that are no structs: lists, and what is in them, and fields.
func parts(s *api.Tree) []part {
	var l []part
	var walk func(path string, v reflect.Value)
	walk = func(path string, v reflect.Value) {
		switch v.Kind() {
		case reflect.Struct:
			for i := range v.NumField() {
				walk(path+"."+v.Type().Field(i).Name, v.Field(i))
			}
		case reflect.Slice:
			l = append(l, part{path, v})
			for i := range v.Len() {
				walk(path+"["+strconv.Itoa(i)+"]", v.Index(i))
			}
		default:
			l = append(l, part{path, v})
		}
	}
	walk("", reflect.ValueOf(s).Elem())
	return l
}

// fields are the parts of a tree that are no lists.
func fields(s *api.Tree) []part {
	return slices.DeleteFunc(parts(s), func(p part) bool { return p.v.Kind() == reflect.Slice })
}

// lists are the lists of a tree.
func lists(s *api.Tree) []part {
	return slices.DeleteFunc(parts(s), func(p part) bool { return p.v.Kind() != reflect.Slice })
}

// isPlace tells whether a part is a line or a column.
func isPlace(p part) bool {
	return strings.HasSuffix(p.path, ".Line") || strings.HasSuffix(p.path, ".Col")
}

// change makes of a field's value another one.
func change(v reflect.Value) {
	switch v.Kind() {
	case reflect.Int, reflect.Int64:
		v.SetInt(v.Int() + 1)
	case reflect.String:
		v.SetString(v.String() + "x")
	case reflect.Bool:
		v.SetBool(!v.Bool())
	}
}

// clone is a tree of new memory, whose empty lists are nil.
func clone(s api.Tree) api.Tree {
	var c api.Tree
	lay(reflect.ValueOf(&c).Elem(), reflect.ValueOf(s))
	return c
}

// lay makes of a part the same as another one, of new memory.
func lay(v, of reflect.Value) {
	switch {
	case v.Kind() == reflect.Struct:
		for i := range v.NumField() {
			lay(v.Field(i), of.Field(i))
		}
	case v.Kind() != reflect.Slice:
		v.Set(of)
	case of.Len() > 0:
		v.Set(reflect.MakeSlice(v.Type(), of.Len(), of.Len()))
		for i := range v.Len() {
			lay(v.Index(i), of.Index(i))
		}
	}
}

// equal tells anew whether two trees are the same.
func equal(a, b api.Tree) bool { return equalParts(reflect.ValueOf(a), reflect.ValueOf(b)) }

// equalParts tells whether two parts of trees are the same.
func equalParts(a, b reflect.Value) bool {
	switch a.Kind() {
	case reflect.Struct:
		for i := range a.NumField() {
			if !equalParts(a.Field(i), b.Field(i)) {
				return false
			}
		}
		return true
	case reflect.Slice:
		same := a.Len() == b.Len()
		for i := 0; same && i < a.Len(); i++ {
			same = equalParts(a.Index(i), b.Index(i))
		}
		return same
	}
	return a.Equal(b)
}

// checkTree holds what is told of a tree against whether it may be, and against the chapter's words, said anew; places change nothing of it.
func checkTree(t *testing.T, s api.Tree, right bool) {
	t.Helper()
	if mayBe(s) != right {
		t.Fatalf("%s: is the test right?", brief(s))
	}
	was := clone(s)
	if tree.Right(s) != right {
		t.Fatalf("Right(%s) = %v", brief(s), !right)
	}
	placed, plain := clone(s), clone(s)
	for i, p := range fields(&placed) {
		if isPlace(p) {
			p.v.SetInt(int64(i)*7919 - 5)
		}
	}
	for _, p := range fields(&plain) {
		if isPlace(p) {
			p.v.SetInt(0)
		}
	}
	if tree.Right(placed) != right || tree.Right(plain) != right {
		t.Fatalf("Right(%s) hangs on places", brief(s))
	}
	for _, x := range []api.Tree{s, placed, plain} {
		if got := tree.Plain(x); !equal(got, plain) {
			t.Fatalf("Plain(%s) = %s", brief(x), brief(got))
		}
		if tree.Same(x, s) != equal(x, s) || tree.Same(s, x) != equal(x, s) || !tree.Same(x, x) || !tree.Same(x, clone(x)) {
			t.Fatalf("Same(%s, %s) is wrong", brief(s), brief(x))
		}
	}
	if !equal(s, was) {
		t.Fatalf("%s was changed to %s", brief(was), brief(s))
	}
}

// checkChanged holds of a tree that was changed whether it may be.
func checkChanged(t *testing.T, s api.Tree, right bool, change func(s *api.Tree)) {
	t.Helper()
	changed := clone(s)
	change(&changed)
	checkTree(t, changed, right)
}

// 10.1: the least tree there is, and one that has of each thing two.
func TestTreesThatMayBe(t *testing.T) {
	checkTree(t, least(), true)
	checkTree(t, full(), true)
	checkTree(t, api.Tree{}, false)
	checkTree(t, api.Tree{Name: api.Ident{Text: "a"}}, false)
	checkTree(t, api.Tree{Start: api.Ident{Text: "a"}}, false)
}

// 10.1: each name in turn.
func TestNamesOfTrees(t *testing.T) {
	whole := full()
	count := 0
	for i, p := range fields(&whole) {
		if p.v.Kind() != reflect.String || p.v.String() == "" || strings.HasSuffix(p.path, ".Str") {
			continue
		}
		count++
		for _, s := range goodNames {
			checkChanged(t, whole, true, func(s1 *api.Tree) { fields(s1)[i].v.SetString(s) })
		}
		for _, s := range badNames {
			checkChanged(t, whole, false, func(s1 *api.Tree) { fields(s1)[i].v.SetString(s) })
		}
	}
	if count != 39 {
		t.Fatalf("%d names", count)
	}
}

// 10.1: each kind in turn.
func TestKindsOfTrees(t *testing.T) {
	whole := full()
	count := 0
	for i, p := range fields(&whole) {
		isArg := strings.HasSuffix(p.path, "].Kind") && strings.Contains(p.path, "Args[")
		if !isArg && !strings.HasSuffix(p.path, ".Type") && !strings.Contains(p.path, "Types[") {
			continue
		}
		count++
		was := p.v.Int()
		for _, kind := range []int64{math.MinInt64, -3, -2, -1, 0, 1, 2, 3, 4, 5, 255, 257, 1<<32 + 1, math.MaxInt64} {
			right := kind >= 1 && kind <= 3 && (!isArg || kind == was)
			checkChanged(t, whole, right, func(s *api.Tree) { fields(s)[i].v.SetInt(kind) })
		}
	}
	if count != 21 {
		t.Fatalf("%d kinds", count)
	}
}

// 10.1: each value in turn.
func TestValuesOfTrees(t *testing.T) {
	whole := full()
	free := func(i int) func(s *api.Tree) *api.Value {
		return func(s *api.Tree) *api.Value { return &s.Frees[i].Value }
	}
	also := func(i, k int) func(s *api.Tree) *api.Value {
		return func(s *api.Tree) *api.Value { return &s.Also[i].Args[k].Value }
	}
	node := func(i, k int) func(s *api.Tree) *api.Value {
		return func(s *api.Tree) *api.Value { return &s.Trans[i].Nodes[k].Value }
	}
	on := func(s *api.Tree) *api.Value { return &s.Trans[1].On.Args[0].Value }
	for _, of := range []func(s *api.Tree) *api.Value{free(0), free(1), free(2), also(0, 0), also(1, 2), on, node(0, 1), node(0, 7), node(1, 2), node(1, 3), node(2, 1)} {
		for _, v := range goodValues {
			checkChanged(t, whole, true, func(s *api.Tree) { *of(s) = v })
		}
		for _, v := range badValues {
			checkChanged(t, whole, false, func(s *api.Tree) { *of(s) = v })
		}
	}
}

// 10.1: arguments of each kind, with fields that they have not.
func TestArguments(t *testing.T) {
	for _, x := range []struct {
		a     api.TreeArg
		right bool
	}{
		{api.TreeArg{Kind: 1, Value: value.Int(0)}, true},
		{api.TreeArg{Kind: 1, Value: value.Str("")}, true},
		{api.TreeArg{Kind: 1, Value: value.Bool(false)}, true},
		{api.TreeArg{Kind: 1}, false},
		{api.TreeArg{Kind: 1, Name: "x"}, false},
		{api.TreeArg{Kind: 1, Name: "x", Value: value.Int(0)}, false},
		{api.TreeArg{Kind: 1, Name: "_", Value: value.Int(0)}, false},
		{api.TreeArg{Kind: 2, Name: "x"}, true},
		{api.TreeArg{Kind: 2}, false},
		{api.TreeArg{Kind: 2, Name: "_"}, false},
		{api.TreeArg{Kind: 2, Value: value.Int(0)}, false},
		{api.TreeArg{Kind: 2, Name: "x", Value: value.Int(0)}, false},
		{api.TreeArg{Kind: 2, Name: "x", Value: value.Bool(false)}, false},
		{api.TreeArg{Kind: 2, Name: "x", Value: api.Value{Str: "x"}}, false},
		{api.TreeArg{Kind: 3}, true},
		{api.TreeArg{Kind: 3, Name: "x"}, false},
		{api.TreeArg{Kind: 3, Name: "_"}, false},
		{api.TreeArg{Kind: 3, Value: value.Int(0)}, false},
		{api.TreeArg{Kind: 3, Value: api.Value{Bool: true}}, false},
		{api.TreeArg{}, false},
		{api.TreeArg{Kind: 0, Name: "x"}, false},
		{api.TreeArg{Kind: 0, Value: value.Int(0)}, false},
		{api.TreeArg{Kind: 4}, false},
		{api.TreeArg{Kind: 4, Name: "x"}, false},
		{api.TreeArg{Kind: 4, Value: value.Int(0)}, false},
		{api.TreeArg{Kind: -1}, false},
		{api.TreeArg{Kind: -1, Name: "x"}, false},
	} {
		for i := range 2 {
			checkChanged(t, full(), x.right, func(s *api.Tree) { s.Also[1].Args[i] = x.a })
			checkChanged(t, full(), x.right, func(s *api.Tree) { s.Trans[1].On.Args[i] = x.a })
			checkChanged(t, least(), x.right, func(s *api.Tree) { s.Also = []api.TreeSymbol{{Name: "e", Args: []api.TreeArg{x.a}}} })
		}
	}
}

// 10.1: each field of each node in turn is what its operator asks for.
func TestNodesOfTrees(t *testing.T) {
	whole := full()
	for i, tr := range whole.Trans {
		for k, n := range tr.Nodes {
			for _, change := range []func(n *api.Expr){
				func(n *api.Expr) { n.A++ },
				func(n *api.Expr) { n.A-- },
				func(n *api.Expr) { n.B++ },
				func(n *api.Expr) { n.B-- },
				func(n *api.Expr) { n.Op = 0 },
				func(n *api.Expr) { n.Op = 2 },
				func(n *api.Expr) { n.Op = 3 },
				func(n *api.Expr) { n.Op = 18 },
				func(n *api.Expr) { n.Op = -n.Op },
			} {
				checkChanged(t, whole, false, func(s *api.Tree) { change(&s.Trans[i].Nodes[k]) })
			}
			if n.Op != 17 {
				checkChanged(t, whole, false, func(s *api.Tree) { s.Trans[i].Nodes[k].Name = "x" })
			}
			if n.Op != 1 {
				checkChanged(t, whole, false, func(s *api.Tree) { s.Trans[i].Nodes[k].Value = value.Int(0) })
			}
		}
	}
}

// trans is a transition with nodes, a guard, and settings to expressions.
func trans(l []api.Expr, guard int, sets ...int) api.TreeTrans {
	x := api.TreeTrans{From: api.Ident{Text: "s"}, To: api.Ident{Text: "s"}, On: api.TreeSymbol{Name: "e"}, Nodes: l, Guard: guard}
	for _, at := range sets {
		x.Sets = append(x.Sets, api.TreeSet{Name: api.Ident{Text: "f"}, Expr: at})
	}
	return x
}

// 10.1: guards and settings, and the nodes of transitions.
func TestGuardsAndSettings(t *testing.T) {
	x, five := name("x"), number(5)
	less := []api.Expr{x, five, two(15, 0, 1)}
	rows := []api.Expr{x, five, two(15, 0, 1), x, one(5, 3), five}
	bad := []api.Expr{x, one(4, 1), five}
	deep, deeper := chain(64, "left"), chain(65, "left")
	for i, c := range []struct {
		x     api.TreeTrans
		right bool
	}{
		{trans(nil, -1), true},
		{trans(nil, 0), false},
		{trans(nil, -2), false},
		{trans(nil, 1), false},
		{trans(nil, -1, -1), false},
		{trans(nil, -1, 0), false},
		{trans(nil, -1, -2), false},
		{trans(less, -1), false},
		{trans(less, 2), true},
		{trans(less, 1), false},
		{trans(less, 0), false},
		{trans(less, 3), false},
		{trans(less, -2), false},
		{trans(less, math.MinInt), false},
		{trans(less, math.MaxInt), false},
		{trans(less, -1, 2), true},
		{trans(less, -2, 2), false},
		{trans(less, -1, 2, -1), false},
		{trans(less, -1, -1, 2), false},
		{trans(less, 2, -1), false},
		{trans(less, 2, 2), false},
		{trans(less, -1, 2, 2), false},
		{trans(less, 0, 2), false},
		{trans(less, 0, 1), false},
		{trans(less, 2, 0), false},
		{trans(less, 2, 3), false},
		{trans(less, -1, 3), false},
		{trans(less, -1, math.MinInt), false},
		{trans(less, -1, math.MaxInt), false},
		{trans(less[:2], 0, 1), true},
		{trans(less[:2], -1, 0, 1), true},
		{trans(less[:2], 1, 0), false},
		{trans(less[:2], -1, 1, 0), false},
		{trans(less[:2], 0), false},
		{trans(less[:2], 1), false},
		{trans(less[:2], -1, 0), false},
		{trans(less[:2], -1, 1), false},
		{trans(less[:2], 0, 0), false},
		{trans(less[:2], 1, 1), false},
		{trans(rows, 2, 4, 5), true},
		{trans(rows, -1, 2, 4, 5), true},
		{trans(rows, 2, 4), false},
		{trans(rows, 2, 5), false},
		{trans(rows, -1, 4, 5), false},
		{trans(rows, 4, 5), false},
		{trans(rows, 2, 5, 4), false},
		{trans(rows, 4, 2, 5), false},
		{trans(rows, 5, 2, 4), false},
		{trans(rows, -1, 5, 4, 2), false},
		{trans(rows, 2, 3, 5), false},
		{trans(rows, 2, 3, 4, 5), false},
		{trans(rows, 2, 2, 4, 5), false},
		{trans(rows, 2, 4, 5, 5), false},
		{trans(rows, 2, 4, 5, 6), false},
		{trans(rows, 1, 4, 5), false},
		{trans(rows[:5], 2, 4, 5), false},
		{trans(rows[:4], 2, 3), true},
		{trans(rows[:4], 2), false},
		{trans([]api.Expr{x, x, five, two(15, 1, 2)}, 3), false},
		{trans([]api.Expr{x, x, five, two(15, 1, 2)}, 0, 3), true},
		{trans([]api.Expr{x, x, five, two(15, 0, 2)}, 3), false},
		{trans([]api.Expr{x, five, two(15, 0, 1), x}, 2), false},
		{trans(bad, 0, 1, 2), false},
		{trans(bad, 1, 2), false},
		{trans(bad, 0, 2), false},
		{trans(deep, 126), true},
		{trans(deeper, 128), false},
		{trans(deeper, -1, 128), false},
		{trans(slices.Concat(deep, behind(deep, 127), behind(deep, 254)), 126, 253, 380), true},
		{trans(slices.Concat(deep, behind(deeper, 127), behind(deep, 256)), 126, 255, 382), false},
		{trans(slices.Concat(deep, behind(deep, 127), behind(deeper, 254)), 126, 253, 382), false},
		{trans(slices.Concat(deeper, behind(deep, 129), behind(deep, 256)), 128, 255, 382), false},
		{trans(append(slices.Clone(deep), one(4, 126)), 127), false},
	} {
		s := least()
		s.Trans = []api.TreeTrans{c.x}
		if mayBe(s) != c.right {
			t.Errorf("row %d: is the test right?", i)
			continue
		}
		checkTree(t, s, c.right)
		// It is just the same among others, which take none of each other's nodes.
		s.Trans = []api.TreeTrans{trans(less, 2), c.x, trans(rows, 2, 4, 5), c.x, trans(nil, -1)}
		checkTree(t, s, c.right)
	}
}

// 10.1: what the chapter does not ask for keeps no tree from being: names twice, or of nothing, kinds that do not go together, and more than other layers' bounds.
func TestWhatIsNotAskedFor(t *testing.T) {
	for _, change := range []func(s *api.Tree){
		func(s *api.Tree) { s.Decls[1].Name.Text = s.Decls[0].Name.Text },
		func(s *api.Tree) { s.Quants[1].Name.Text = s.Quants[0].Name.Text },
		func(s *api.Tree) { s.Frees[0].Name.Text = s.Quants[0].Name.Text },
		func(s *api.Tree) { s.States[1].Name.Text = s.States[0].Name.Text },
		func(s *api.Tree) { s.Trans[0].Sets[1].Name.Text = s.Trans[0].Sets[0].Name.Text },
		func(s *api.Tree) { s.Start.Text = "nowhere" },
		func(s *api.Tree) { s.Trans[0].From.Text, s.Trans[0].To.Text = "nowhere", "nowhere" },
		func(s *api.Tree) { s.Trans[0].On.Name, s.Also[0].Name = "never", "never" },
		func(s *api.Tree) { s.Trans[0].On.Args, s.Also[0].Args = nil, nil },
		func(s *api.Tree) { s.Trans[0].Nodes[0].Name = "nothing" },
		func(s *api.Tree) { s.Trans[0].Nodes[4].Op = 7 },
		func(s *api.Tree) { s.Decls, s.Quants, s.Frees, s.States = nil, nil, nil, nil },
		func(s *api.Tree) { s.Also = append(s.Also, s.Also[0]) },
		func(s *api.Tree) { s.Decls = slices.Repeat(s.Decls, 33) },
		func(s *api.Tree) { s.Decls[0].Types = slices.Repeat([]int{1, 2, 3}, 33) },
		func(s *api.Tree) { s.Quants = slices.Repeat(s.Quants, 9) },
		func(s *api.Tree) { s.Frees = slices.Repeat(s.Frees, 17) },
		func(s *api.Tree) { s.States = slices.Repeat(s.States, 33) },
		func(s *api.Tree) { s.Also = slices.Repeat(s.Also, 65) },
		func(s *api.Tree) { s.Also[0].Args = slices.Repeat(s.Also[0].Args, 9) },
		func(s *api.Tree) { s.Trans = slices.Repeat(s.Trans, 257) },
		func(s *api.Tree) {
			s.Trans[0] = trans(nil, -1)
			for i := range 2049 {
				s.Trans[0].Nodes = append(s.Trans[0].Nodes, name("x"))
				s.Trans[0].Sets = append(s.Trans[0].Sets, api.TreeSet{Name: api.Ident{Text: "f"}, Expr: i})
			}
		},
	} {
		checkChanged(t, full(), true, change)
	}
}

// 10.1, 10.2: each place in turn is taken away alone, whatever it is, and nothing else is changed.
func TestPlacesInTurn(t *testing.T) {
	for _, whole := range []api.Tree{full(), spoilt()} {
		plain, right := tree.Plain(whole), mayBe(whole)
		placed := 0
		for i, p := range fields(&whole) {
			if !isPlace(p) {
				continue
			}
			placed++
			for _, at := range []int64{math.MinInt64, -1, 1, math.MaxInt64} {
				one := clone(plain)
				fields(&one)[i].v.SetInt(at)
				if got := tree.Plain(one); !equal(got, plain) {
					t.Fatalf("%s: Plain = %s", p.path, brief(got))
				}
				if tree.Right(one) != right {
					t.Fatalf("%s: Right = %v", p.path, !right)
				}
				if tree.Same(one, plain) || tree.Same(plain, one) || !tree.Same(one, clone(one)) {
					t.Fatalf("%s: Same", p.path)
				}
			}
		}
		if placed < 100 {
			t.Fatalf("%d places", placed)
		}
	}
}

// spoilt is a tree that may not be, in all that it has.
func spoilt() api.Tree {
	s := full()
	for i, p := range fields(&s) {
		switch p.v.Kind() {
		case reflect.Int, reflect.Int64:
			p.v.SetInt(-int64(i) - 3)
		case reflect.String:
			p.v.SetString("no name " + strconv.Itoa(i))
		case reflect.Bool:
			p.v.SetBool(i%2 == 0)
		}
	}
	return s
}

// 10.2: Plain changes places alone, also of trees that may not be, and what was handed in is as it was.
func TestPlain(t *testing.T) {
	checkTree(t, spoilt(), false)
	for _, s := range []api.Tree{{}, least(), full(), spoilt()} {
		was := clone(s)
		plain := tree.Plain(s)
		for _, p := range fields(&plain) {
			if isPlace(p) && p.v.Int() != 0 {
				t.Errorf("%s is %d", p.path, p.v.Int())
			}
		}
		left, kept := fields(&plain), fields(&was)
		if len(left) != len(kept) {
			t.Fatalf("%d fields of %d", len(left), len(kept))
		}
		for i, p := range kept {
			if !isPlace(p) && (left[i].path != p.path || left[i].v.Interface() != p.v.Interface()) {
				t.Errorf("%s is %v, not %v", p.path, left[i].v, p.v)
			}
		}
		if !equal(s, was) {
			t.Errorf("%s was changed to %s", brief(was), brief(s))
		}
		if !equal(tree.Plain(plain), plain) {
			t.Errorf("%s is not plain", brief(plain))
		}
	}
}

// 10.2: a tree is the same as itself, and as one that has the same in other memory; one thing alone that differs tells them apart.
func TestSame(t *testing.T) {
	for _, whole := range []api.Tree{full(), spoilt()} {
		if !tree.Same(whole, whole) || !tree.Same(whole, clone(whole)) {
			t.Fatal("not the same as itself")
		}
		checkApart := func(path string, other api.Tree) {
			t.Helper()
			if tree.Same(whole, other) || tree.Same(other, whole) {
				t.Fatalf("the same, but for %s", path)
			}
		}
		for i, p := range fields(&whole) {
			other := clone(whole)
			change(fields(&other)[i].v)
			checkApart(p.path, other)
		}
		for i, p := range lists(&whole) {
			if p.v.Len() == 0 {
				continue
			}
			shorter, longer, later, swapped := clone(whole), clone(whole), clone(whole), clone(whole)
			v := lists(&shorter)[i].v
			v.SetLen(v.Len() - 1)
			checkApart(p.path+" without the last one", shorter)
			v = lists(&longer)[i].v
			v.Set(reflect.Append(v, reflect.Zero(v.Type().Elem())))
			checkApart(p.path+" with a last one", longer)
			v = lists(&later)[i].v
			v.Set(v.Slice(1, v.Len()))
			checkApart(p.path+" without the first one", later)
			v = lists(&swapped)[i].v
			if last := v.Len() - 1; last > 0 && !reflect.DeepEqual(v.Index(0).Interface(), v.Index(last).Interface()) {
				first := reflect.New(v.Type().Elem()).Elem()
				first.Set(v.Index(0))
				v.Index(0).Set(v.Index(last))
				v.Index(last).Set(first)
				checkApart(p.path+" in another order", swapped)
			}
		}
	}
	if tree.Same(full(), least()) || tree.Same(least(), full()) || tree.Same(least(), api.Tree{}) || !tree.Same(api.Tree{}, api.Tree{}) {
		t.Fatal("least")
	}
}

// R3, 10.1, 10.2: no list and an empty one are the same, wherever they stand.
func TestNilAndEmpty(t *testing.T) {
	hollow := full()
	hollow.Decls[0].Types, hollow.Also[0].Args = nil, nil
	hollow.Trans[3].On.Args, hollow.Trans[3].Nodes, hollow.Trans[3].Sets = nil, nil, nil
	for _, s := range []api.Tree{least(), hollow} {
		for i, p := range lists(&s) {
			if p.v.Len() > 0 {
				continue
			}
			other := clone(s)
			v := lists(&other)[i].v
			v.Set(reflect.MakeSlice(v.Type(), 0, 3))
			if !tree.Same(s, other) || !tree.Same(other, s) {
				t.Errorf("%s: not the same", p.path)
			}
			if !tree.Right(other) || !equal(tree.Plain(other), tree.Plain(s)) || !tree.Same(tree.Plain(other), tree.Plain(s)) {
				t.Errorf("%s: not right, or not plain", p.path)
			}
		}
	}
}

// R3: what Plain answers is memory of its own.
func TestMemory(t *testing.T) {
	s := full()
	was := clone(s)
	first, second := tree.Plain(s), tree.Plain(s)
	for _, p := range fields(&first) {
		change(p.v)
	}
	for _, p := range lists(&first) {
		p.v.Set(reflect.Append(p.v, reflect.Zero(p.v.Type().Elem())))
	}
	if !equal(s, was) {
		t.Fatalf("%s was changed to %s", brief(was), brief(s))
	}
	third := tree.Plain(s)
	if !equal(second, third) {
		t.Fatalf("%s, %s", brief(second), brief(third))
	}
	for _, p := range fields(&s) {
		change(p.v)
	}
	if !equal(second, third) || equal(tree.Plain(s), third) {
		t.Fatalf("%s, %s behind changes of what was handed in", brief(second), brief(third))
	}
	// No two lists of one answer share what they hold.
	for i := range parts(&third) {
		one := tree.Plain(was)
		p := parts(&one)[i]
		if p.v.Kind() != reflect.Slice || p.v.Len() == 0 {
			continue
		}
		v := p.v
		reflect.AppendSlice(v, v)
		if !equal(one, third) {
			t.Fatalf("%s: what is laid behind stands in another list", p.path)
		}
	}
}

// changeTree changes a field of a tree, told by two numbers.
func changeTree(s *api.Tree, at, how int) {
	l := fields(s)
	p := l[at%len(l)]
	switch p.v.Kind() {
	case reflect.Int, reflect.Int64:
		p.v.SetInt([]int64{p.v.Int() + 1, p.v.Int() - 1, -1, 0, 1, 2, 3, 4, 17, 18, int64(how)}[how%11])
	case reflect.String:
		names := slices.Concat(goodNames, badNames)
		p.v.SetString(names[how%len(names)])
	case reflect.Bool:
		change(p.v)
	}
}

// 10.1, 10.2: trees made by chance of a whole one.
func TestManyTrees(t *testing.T) {
	chance := rand.New(rand.NewSource(11))
	right := 0
	for range 1000 {
		s := full()
		for i := range s.Trans {
			x := trans(nil, -1)
			for k := range chance.Intn(4) {
				x.Nodes = append(x.Nodes, behind(someExpr(chance, 1+chance.Intn(4)), len(x.Nodes))...)
				if k == 0 && chance.Intn(2) == 0 {
					x.Guard = len(x.Nodes) - 1
				} else {
					x.Sets = append(x.Sets, api.TreeSet{Name: api.Ident{Text: "f"}, Expr: len(x.Nodes) - 1})
				}
			}
			s.Trans[i] = x
		}
		checkTree(t, s, true)
		for range chance.Intn(3) {
			changeTree(&s, chance.Intn(1<<20), chance.Intn(256))
		}
		if mayBe(s) {
			right++
		}
		checkTree(t, s, mayBe(s))
	}
	if right < 100 || right > 900 {
		t.Fatalf("%d are right", right)
	}
}

func FuzzNodes(f *testing.F) {
	f.Add([]byte{17, 0, 0, 0, 1, 0, 0, 0, 8, 0, 1, 0})
	f.Add([]byte{1, 0, 0, 0, 4, 0, 0, 0, 5, 1, 0, 0, 15, 2, 255, 1})
	f.Fuzz(func(t *testing.T, b []byte) {
		var l []api.Expr
		for ; len(b) >= 4 && len(l) < 300; b = b[4:] {
			n := api.Expr{Op: int(int8(b[0])), A: int(int8(b[1])), B: int(int8(b[2]))}
			if n.Op == 17 || b[3]&1 == 1 {
				n.Name = slices.Concat(goodNames, badNames)[int(b[3]>>1)%(len(goodNames)+len(badNames))]
			}
			if n.Op == 1 || b[3]&2 == 2 {
				n.Value = slices.Concat(goodValues, badValues)[int(b[3]>>2)%(len(goodValues)+len(badValues))]
			}
			l = append(l, n)
		}
		checkNodes(t, l)
	})
}

func FuzzTree(f *testing.F) {
	f.Add([]byte{})
	f.Add([]byte{0, 1, 2})
	f.Add([]byte{0, 200, 5, 1, 9, 255})
	f.Fuzz(func(t *testing.T, b []byte) {
		s := full()
		for ; len(b) >= 3; b = b[3:] {
			changeTree(&s, int(b[0])<<8+int(b[1]), int(b[2]))
		}
		checkTree(t, s, mayBe(s))
	})
}
