package print_test

import (
	"fmt"
	"math"
	"math/rand"
	"reflect"
	"slices"
	"strconv"
	"strings"
	"testing"

	"proctor/api"
	"proctor/parse"
	"proctor/print"
	"proctor/tree"
	"proctor/value"
)

// Operators by how many expressions they have, and numbers that are no operator's of what is written.
var (
	leafOps = []int{1, 17}
	oneOps  = []int{4, 5}
	twoOps  = []int{6, 7, 8, 9, 10, 11, 12, 13, 14, 15, 16}
	noOps   = []int{math.MinInt, -1 << 32, -17, -2, -1, 0, 2, 3, 18, 19, 20, 33, 256 + 7, 1<<32 + 7, math.MaxInt}
)

// tokenOf are the operators' tokens, as chapter 11 has them.
var tokenOf = map[int]string{4: "not", 5: "-", 6: "and", 7: "or", 8: "+", 9: "-", 10: "*", 11: "/", 12: "%", 13: "==", 14: "!=", 15: "<", 16: "<="}

// groupOf are the operators' columns in the tables below.
var groupOf = map[int]int{7: 0, 6: 1, 4: 2, 13: 3, 14: 3, 15: 3, 16: 3, 8: 4, 9: 4, 10: 5, 11: 5, 12: 5, 5: 6, 1: 7, 17: 7}

// What stands in brackets on the left of an operator, and on its right (or behind it): a row for each group of operators, a column for what it has: or, and, not, what compares, + -, * / %, the sign -, values and names.
var (
	leftBrackets = [...]string{
		"........",
		"(.......",
		"        ",
		"((((....",
		"((((....",
		"(((((...",
		"        ",
	}
	rightBrackets = [...]string{
		"(.......",
		"((......",
		"((......",
		"((((....",
		"(((((...",
		"((((((..",
		"((((((..",
	}
)

// Texts that are names, and that are none.
var (
	goodNames = []string{"x", "Z", "_x", "__", "If", "a_0", "orx", "True", strings.Repeat("n", 32)}
	badNames  = []string{"", "_", "if", "qea", "true", "not", "0", "9x", "a b", "a-b", " a", "a\n", "\x80", "a\x00", "\u00e9", strings.Repeat("n", 33)}
)

// Values that may be, with their texts, and values that may not be.
var (
	goodValues = []api.Value{
		{Kind: 1}, {Kind: 1, Int: 1}, {Kind: 1, Int: -1}, {Kind: 1, Int: 10}, {Kind: 1, Int: -207}, {Kind: 1, Int: math.MinInt64}, {Kind: 1, Int: math.MaxInt64},
		{Kind: 2}, {Kind: 2, Str: "if"}, {Kind: 2, Str: "5"}, {Kind: 2, Str: "a\"b\\c"}, {Kind: 2, Str: "\n\t\r, ) # x"}, {Kind: 2, Str: "\x00\x7f\x80\xff\u00e9"},
		{Kind: 3}, {Kind: 3, Bool: true},
	}
	goodTexts = []string{
		"0", "1", "-1", "10", "-207", "-9223372036854775808", "9223372036854775807",
		`""`, `"if"`, `"5"`, `"a\"b\\c"`, `"\n\t\r, ) # x"`, `"\x00\x7f\x80\xff\xc3\xa9"`,
		"false", "true",
	}
	badValues = []api.Value{
		{}, {Kind: -1}, {Kind: 4}, {Int: 5}, {Str: "a"}, {Bool: true},
		{Kind: 1, Str: "a"}, {Kind: 1, Bool: true}, {Kind: 2, Int: 1}, {Kind: 2, Bool: true}, {Kind: 3, Int: 1}, {Kind: 3, Str: "a"},
		{Kind: 2, Str: strings.Repeat("x", 4097)},
	}
)

// brief is how a thing is shown, cut where it is too long to be read.
func brief(x any) string {
	s := fmt.Sprintf("%+v", x)
	return strings.ToValidUTF8(s[:min(len(s), 2000)], "?")
}

// name, number and constant are expressions of one node.
func name(s string) []api.Expr        { return []api.Expr{{Op: 17, Name: s}} }
func number(n int64) []api.Expr       { return constant(value.Int(n)) }
func constant(v api.Value) []api.Expr { return []api.Expr{{Op: 1, Value: v}} }

// behind are an expression's nodes, as they stand behind that many others.
func behind(l []api.Expr, by int) []api.Expr {
	moved := slices.Clone(l)
	for i, n := range moved {
		if slices.Contains(oneOps, n.Op) {
			moved[i].A += by
		}
		if slices.Contains(twoOps, n.Op) {
			moved[i].A, moved[i].B = n.A+by, n.B+by
		}
	}
	return moved
}

// join are expressions joined by an operator that has as many.
func join(op int, l ...[]api.Expr) []api.Expr {
	var joined []api.Expr
	var roots []int
	for _, x := range l {
		joined = append(joined, behind(x, len(joined))...)
		roots = append(roots, len(joined)-1)
	}
	n := api.Expr{Op: op, A: roots[0]}
	if len(roots) == 2 {
		n.B = roots[1]
	}
	return append(joined, n)
}

// over is an operator of expressions that are handed in, as many of them as it has.
func over(op int, a, b []api.Expr) []api.Expr {
	if slices.Contains(oneOps, op) {
		return join(op, b)
	}
	return join(op, a, b)
}

// wantPart says anew how an expression stands on a side of an operator.
func wantPart(l []api.Expr, at int, outer int, table [7]string) string {
	n := l[at]
	s := wantExpr(l, at)
	if outer == 5 && n.Op == 1 && n.Value.Kind == 1 && !strings.HasPrefix(s, "-") {
		return "(" + s + ")"
	}
	if table[groupOf[outer]][groupOf[n.Op]] == '(' {
		return "(" + s + ")"
	}
	return s
}

// wantExpr says anew what the text of an expression is that there is.
func wantExpr(l []api.Expr, at int) string {
	switch n := l[at]; n.Op {
	case 1:
		return value.Text(n.Value)
	case 17:
		return n.Name
	case 4:
		return "not " + wantPart(l, n.A, n.Op, rightBrackets)
	case 5:
		return "-" + wantPart(l, n.A, n.Op, rightBrackets)
	default:
		return wantPart(l, n.A, n.Op, leftBrackets) + " " + tokenOf[n.Op] + " " + wantPart(l, n.B, n.Op, rightBrackets)
	}
}

// wantArg says anew what the text of an argument is.
func wantArg(a api.TreeArg) string {
	return map[int]string{1: value.Text(a.Value), 2: a.Name, 3: "_"}[a.Kind]
}

// wantSymbol says anew what the text of a symbol is.
func wantSymbol(s api.TreeSymbol) string {
	args := ""
	for i, a := range s.Args {
		if i > 0 {
			args += ", "
		}
		args += wantArg(a)
	}
	return fmt.Sprintf("%s(%s)", s.Name, args)
}

// wantTree says anew what the text of a tree is that may be.
func wantTree(s api.Tree) string {
	kinds := map[int]string{1: "int", 2: "string", 3: "bool"}
	out := fmt.Sprintf("qea %s\n", s.Name.Text)
	for _, d := range s.Decls {
		out += "event " + d.Name.Text + "("
		for i, kind := range d.Types {
			out += []string{", ", ""}[max(0, 1-i)] + kinds[kind]
		}
		out += ")\n"
	}
	for _, q := range s.Quants {
		out += map[bool]string{true: "forall ", false: "exists "}[q.All] + q.Name.Text + ": " + kinds[q.Type] + "\n"
	}
	for _, f := range s.Frees {
		out += fmt.Sprintf("free %s = %s\n", f.Name.Text, value.Text(f.Value))
	}
	for _, state := range s.States {
		out += map[bool]string{true: "next ", false: "skip "}[state.Next] + state.Name.Text + map[bool]string{true: " accept"}[state.Accept] + "\n"
	}
	out += fmt.Sprintf("start %s\n", s.Start.Text)
	for _, also := range s.Also {
		out += fmt.Sprintf("also %s\n", wantSymbol(also))
	}
	for _, t := range s.Trans {
		out += t.From.Text + " on " + wantSymbol(t.On)
		if t.Guard >= 0 {
			out += " if " + wantExpr(t.Nodes, t.Guard)
		}
		for i, set := range t.Sets {
			out += []string{",", " do"}[max(0, 1-i)] + fmt.Sprintf(" %s = %s", set.Name.Text, wantExpr(t.Nodes, set.Expr))
		}
		out += " to " + t.To.Text + "\n"
	}
	return out
}

// unplaced are nodes without their places.
func unplaced(l []api.Expr) []api.Expr {
	l = slices.Clone(l)
	for i := range l {
		l[i].Line, l[i].Col = 0, 0
	}
	return l
}

// checkExpr holds the text of each expression of a list, and of places beside it, against the chapter's words, said anew.
func checkExpr(t *testing.T, l []api.Expr) {
	t.Helper()
	was := slices.Clone(l)
	for at := -2; at < len(l)+2; at++ {
		got, want := print.Expr(l, at), ""
		if depth := tree.Depth(l, at); depth > 0 && depth <= 64 {
			want = wantExpr(l, at)
		}
		if got != want {
			t.Fatalf("Expr(%s, %d) = %.2000q; want %.2000q", brief(l), at, got, want)
		}
		if again := print.Expr(l, at); again != got {
			t.Fatalf("Expr(%s, %d) = %.2000q, and then %.2000q", brief(l), at, got, again)
		}
		if size := tree.Size(l, at); want != "" {
			checkRead(t, behind(l[at+1-size:at+1], -(at+1-size)), got)
		}
	}
	if !slices.Equal(l, was) {
		t.Fatalf("%s was changed to %s", brief(was), brief(l))
	}
}

// checkRead holds what is printed of an expression against what is read of that.
func checkRead(t *testing.T, l []api.Expr, s string) {
	t.Helper()
	if len(s) > 65536 {
		return
	}
	read, f := parse.Expr(s)
	if f != (api.Fail{}) || !slices.Equal(unplaced(read), unplaced(l)) {
		t.Fatalf("Expr(%s) = %.2000q, which is read as %s, %v", brief(l), s, brief(read), f)
	}
	if got := print.Expr(read, len(read)-1); got != s {
		t.Fatalf("%.2000q is printed again as %.2000q", s, got)
	}
}

// checkText holds the text of an expression against one that is written out, and against the words.
func checkText(t *testing.T, l []api.Expr, want string) {
	t.Helper()
	if got := print.Expr(l, len(l)-1); got != want {
		t.Errorf("Expr(%s) = %.500q; want %.500q", brief(l), got, want)
	}
	checkExpr(t, l)
}

// checkSame holds that an expression's text, as it stands here, is printed as that.
func checkSame(t *testing.T, s string) {
	t.Helper()
	checkAs(t, s, s)
}

// checkAs holds as what an expression's text is printed.
func checkAs(t *testing.T, s, want string) {
	t.Helper()
	l, f := parse.Expr(s)
	if f != (api.Fail{}) {
		t.Fatalf("%q: %v", s, f)
	}
	checkText(t, l, want)
}

// brackets are the places of each ( and ) of a text that belong together, but for those within quotes.
func brackets(s string) [][2]int {
	var pairs [][2]int
	var open []int
	quoted := false
	for i := 0; i < len(s); i++ {
		switch {
		case quoted && s[i] == '\\':
			i++
		case s[i] == '"':
			quoted = !quoted
		case quoted:
		case s[i] == '(':
			open = append(open, i)
		case s[i] == ')':
			pairs = append(pairs, [2]int{open[len(open)-1], i})
			open = open[:len(open)-1]
		}
	}
	return pairs
}

// checkNeeded holds that each bracket in what is printed of an expression must stand there: without it another expression is read, or none.
func checkNeeded(t *testing.T, l []api.Expr) {
	t.Helper()
	s := print.Expr(l, len(l)-1)
	for _, pair := range brackets(s) {
		cut := []byte(s)
		cut[pair[0]], cut[pair[1]] = ' ', ' '
		if read, f := parse.Expr(string(cut)); f == (api.Fail{}) && slices.Equal(unplaced(read), unplaced(l)) {
			t.Fatalf("%q has brackets that must not be: so has %q the same nodes", s, cut)
		}
	}
}

// 12.1: each operator's level, and 0 of what is none of them.
func TestLevel(t *testing.T) {
	for op, want := range map[int]int{
		api.OpOr: 1, api.OpAnd: 2, api.OpNot: 3, api.OpEq: 4, api.OpNe: 4, api.OpLt: 4, api.OpLe: 4,
		api.OpAdd: 5, api.OpSub: 5, api.OpMul: 6, api.OpDiv: 6, api.OpMod: 6, api.OpNeg: 7, api.OpConst: 8, tree.OpName: 8,
		api.OpQuant: 0, api.OpFree: 0,
	} {
		if got := print.Level(op); got != want {
			t.Errorf("Level(%d) = %d; want %d", op, got, want)
		}
	}
	for _, op := range noOps {
		if got := print.Level(op); got != 0 {
			t.Errorf("Level(%d) = %d; want 0", op, got)
		}
	}
	for op := -300; op <= 300; op++ {
		_, known := groupOf[op]
		if got := print.Level(op); known != (got > 0) || known && got != groupOf[op]+1 {
			t.Errorf("Level(%d) = %d", op, got)
		}
	}
}

// 12.1: the chapter's example.
func TestExample(t *testing.T) {
	checkText(t, join(api.OpMul, join(api.OpAdd, name("a"), number(2)), join(api.OpNeg, number(3))), "(a + 2) * -(3)")
}

// 12.1: values of each kind, texts with quotes, line ends and bytes that are no letters, and names.
func TestLeaves(t *testing.T) {
	for i, v := range goodValues {
		checkText(t, constant(v), goodTexts[i])
		checkText(t, join(api.OpNot, constant(v)), "not "+goodTexts[i])
		checkText(t, join(api.OpEq, constant(v), constant(v)), goodTexts[i]+" == "+goodTexts[i])
		checkText(t, join(api.OpSub, constant(v), constant(v)), goodTexts[i]+" - "+goodTexts[i])
	}
	for _, s := range goodNames {
		checkText(t, name(s), s)
		checkText(t, join(api.OpNot, name(s)), "not "+s)
		checkText(t, join(api.OpNeg, name(s)), "-"+s)
		checkText(t, join(api.OpOr, name(s), name(s)), s+" or "+s)
	}
	long := strings.Repeat("t", 4096)
	checkText(t, constant(value.Str(long)), `"`+long+`"`)
	checkText(t, constant(value.Str(strings.Repeat("\x00", 4096))), `"`+strings.Repeat(`\x00`, 4096)+`"`)
}

// 12.1: the sign - ahead of numbers at 0, below it and above it, of texts, truths, names and expressions.
func TestSign(t *testing.T) {
	for _, s := range []string{
		"-(0)", "-(1)", "-(5)", "-(9223372036854775807)", "--1", "--5", "--9223372036854775808",
		`-""`, `-"5"`, `-"-5"`, "-true", "-false", "-x", "--x", "---x", "--(0)", "---5", "---(5)",
		"-(a + b)", "-(a - b)", "-(a * b)", "-(5 * b)", "-(-5 * b)", "-(a == b)", "-(a and b)", "-(a or b)", "-(not a)", "-(-5 + 5)",
		"-a + b", "-a * b", "-(5) * b", "-5 * b", "a - 5", "a - -5", "a - -(5)", "a - --5", "a - -b", "a * -b", "a * -(5)", "-(5) - -(5)", "-5 - -5", "not -5", "not -(5)", "not -x", "-5 == -(5)", "-a < -b",
	} {
		checkSame(t, s)
	}
	checkText(t, join(api.OpNeg, number(math.MinInt64)), "--9223372036854775808")
	checkText(t, join(api.OpNeg, join(api.OpNeg, number(7))), "--(7)")
	checkText(t, join(api.OpNeg, join(api.OpNeg, number(-7))), "---7")
	checkText(t, join(api.OpNeg, join(api.OpMul, number(7), name("x"))), "-(7 * x)")
	checkText(t, join(api.OpMul, join(api.OpNeg, number(7)), name("x")), "-(7) * x")
	checkText(t, join(api.OpMul, number(-7), name("x")), "-7 * x")
}

// 12.1: what is joined from the left has no brackets there, comparisons have them on both sides, and not is above what compares.
func TestBrackets(t *testing.T) {
	for _, s := range []string{
		"a + b + c", "a + (b + c)", "a - b - c", "a - (b - c)", "a - (b + c)", "a + b - c", "a * b / c % d", "a * (b / c)", "a % (b * c)", "a / (b / (c / d))",
		"a + b * c", "(a + b) * c", "a * b + c", "a * (b + c)", "a - b % c - d", "(a - b) % (c - d)",
		"a and b and c", "a and (b and c)", "a or b or c", "a or (b or c)", "a or b and c", "(a or b) and c", "a and b or c", "a and (b or c)",
		"(a == b) == c", "a == (b == c)", "(a < b) == (c <= d)", "a != (b < c)", "(a <= b) < c", "a == b and c != d or e < f", "(a and b) == c", "a == (b or c)",
		"not a == b", "(not a) == b", "a == (not b)", "not (a and b)", "not (a or b)", "not a and not b", "not not a", "not not not a == b", "(not a) + b", "a * (not b)", "a and not b or not c",
		"a + b == c - d", "a * b < -c", "(a == b) + c", "a - (b < c)", "(a or b) * (c and d)",
	} {
		checkSame(t, s)
	}
	checkAs(t, "((a))", "a")
	checkAs(t, "(a * b) + (c * d)", "a * b + c * d")
	checkAs(t, "(a+b)+((c))", "a + b + c")
	checkAs(t, "(a == b) and (not (c < d))", "a == b and not c < d")
	checkAs(t, "not(not(a))", "not not a")
	checkAs(t, "- ( - 5 )", "--5")
	checkAs(t, "- 5", "-5")
	checkAs(t, "-(- x)", "--x")
	checkAs(t, "a > b", "b < a")
	checkAs(t, "a + 1 >= b * 2", "b * 2 <= a + 1")
	checkAs(t, "(a > b) > (c >= d)", "(d <= c) < (b < a)")
	checkAs(t, "a # of\n +\t5\r\n", "a + 5")
	checkAs(t, `"\n"+x`, `"\n" + x`)
}

// 12.1: each operator with each other one below it, on the left, on the right, and behind not and the sign -: in brackets just where another expression, or none, is read without them.
func TestEachOperatorWithinEach(t *testing.T) {
	ops := append(append(slices.Clone(leafOps), oneOps...), twoOps...)
	made := func(op int) []api.Expr {
		switch op {
		case 1:
			return number(4)
		case 17:
			return name("z")
		}
		return over(op, name("x"), name("y"))
	}
	for _, outer := range append(slices.Clone(oneOps), twoOps...) {
		for _, inner := range ops {
			in := print.Expr(made(inner), len(made(inner))-1)
			sides := [][]api.Expr{over(outer, name("w"), made(inner))}
			texts := [][2]string{{"w " + tokenOf[outer] + " ", ""}}
			if outer == 4 {
				texts[0][0] = "not "
			}
			if outer == 5 {
				texts[0][0] = "-"
			}
			if slices.Contains(twoOps, outer) {
				sides = append(sides, over(outer, made(inner), name("w")))
				texts = append(texts, [2]string{"", " " + tokenOf[outer] + " w"})
			}
			for i, l := range sides {
				want := texts[i][0] + in + texts[i][1]
				if read, f := parse.Expr(want); f != (api.Fail{}) || !slices.Equal(unplaced(read), l) {
					want = texts[i][0] + "(" + in + ")" + texts[i][1]
				}
				checkText(t, l, want)
				checkNeeded(t, l)
			}
		}
	}
}

// 12.1, 12.2: all expressions of up to three operators, of each group's one.
func TestSmallExpressions(t *testing.T) {
	byCount := [][][]api.Expr{{name("x"), number(3), number(-3)}}
	for count := 1; count <= 3; count++ {
		var made [][]api.Expr
		for _, op := range []int{4, 5, 6, 7, 9, 10, 15} {
			if slices.Contains(oneOps, op) {
				for _, x := range byCount[count-1] {
					made = append(made, join(op, x))
				}
				continue
			}
			for left := range count {
				for _, x := range byCount[left] {
					for _, y := range byCount[count-1-left] {
						// The leaves of greater ones are names alone, lest there be too many.
						if count < 3 || !slices.ContainsFunc(x, isNumber) && !slices.ContainsFunc(y, isNumber) {
							made = append(made, join(op, x, y))
						}
					}
				}
			}
		}
		byCount = append(byCount, made)
	}
	for _, made := range byCount {
		for _, l := range made {
			got := print.Expr(l, len(l)-1)
			if want := wantExpr(l, len(l)-1); got != want {
				t.Fatalf("Expr(%s) = %q; want %q", brief(l), got, want)
			}
			checkRead(t, l, got)
			checkNeeded(t, l)
		}
	}
}

// isNumber tells whether a node is a number.
func isNumber(n api.Expr) bool { return n.Op == 1 && n.Value.Kind == 1 }

// 12.1: places below 0, behind the end, at which no expression has its root, and behind other expressions.
func TestPlaces(t *testing.T) {
	l := []api.Expr{{Op: 17, Name: "b"}, {Op: 5, A: 0}, {Op: 17, Name: "a"}, {Op: 1, Value: value.Int(2)}, {Op: 8, A: 2, B: 3}, {Op: 15, A: 1, B: 4}, {Op: 17, Name: "x"}, {Op: 4, A: 6}, {Op: 4, A: 7}, {Op: 5, A: 6}, {Op: 1, Value: value.Int(1)}, {Op: 8, A: 5, B: 10}}
	for at, want := range []string{"b", "-b", "a", "2", "a + 2", "-b < a + 2", "x", "not x", "not not x", "", "1", ""} {
		if got := print.Expr(l, at); got != want {
			t.Errorf("Expr of %d = %q; want %q", at, got, want)
		}
	}
	for _, at := range []int{math.MinInt, -1 << 32, -12, -1, 12, 13, 1 << 32, math.MaxInt} {
		if got := print.Expr(l, at); got != "" {
			t.Errorf("Expr of %d = %q", at, got)
		}
		if got := print.Expr(nil, at) + print.Expr([]api.Expr{}, at); got != "" {
			t.Errorf("Expr of none, %d = %q", at, got)
		}
	}
	checkExpr(t, l)
	checkExpr(t, nil)
}

// 12.1: nodes that are no expression's, for each reason that chapter 10 has.
func TestNoExpression(t *testing.T) {
	for _, n := range []api.Expr{
		{}, {Op: -1}, {Op: 2}, {Op: 3}, {Op: 18}, {Op: math.MaxInt}, {Op: math.MinInt},
		{Op: 1}, {Op: 1, Value: value.Int(1), A: 1}, {Op: 1, Value: value.Int(1), B: -1}, {Op: 1, Value: value.Int(1), Name: "x"},
		{Op: 17, Name: "x", A: 1}, {Op: 17, Name: "x", B: 1}, {Op: 17, Name: "x", Value: value.Int(0)}, {Op: 17, Value: value.Str("x")},
		{Op: 4}, {Op: 4, A: -1}, {Op: 4, A: 1}, {Op: 5, A: math.MaxInt}, {Op: 5, A: math.MinInt}, {Op: 8}, {Op: 8, A: -2, B: -1}, {Op: 16, A: 0, B: 0}, {Op: 7, A: math.MinInt, B: math.MaxInt},
	} {
		for at := -1; at < 2; at++ {
			if got := print.Expr([]api.Expr{n}, at); got != "" {
				t.Errorf("Expr(%+v) = %q", n, got)
			}
		}
	}
	for _, n := range []api.Expr{
		{Op: 4}, {Op: 4, A: 2}, {Op: 4, A: 1, B: 1}, {Op: 4, A: 1, Name: "x"}, {Op: 5, A: 1, Value: value.Int(1)}, {Op: 5, A: 0},
		{Op: 8, A: 0, B: 0}, {Op: 8, A: 1, B: 1}, {Op: 8, A: 1, B: 0}, {Op: 8, A: 0, B: 2}, {Op: 8, A: 0, B: 1, Name: "x"}, {Op: 8, A: 0, B: 1, Value: value.Bool(false)},
	} {
		l := []api.Expr{{Op: 17, Name: "a"}, {Op: 17, Name: "b"}, n}
		if got := print.Expr(l, 2); got != "" {
			t.Errorf("Expr(%+v) = %q", l, got)
		}
	}
	for _, v := range badValues {
		if got := print.Expr(constant(v), 0) + print.Expr(join(4, constant(v)), 1) + print.Expr(join(8, name("a"), constant(v)), 2); got != "" {
			t.Errorf("Expr of %s = %.200q", brief(v), got)
		}
	}
	for _, s := range badNames {
		if got := print.Expr(name(s), 0) + print.Expr(join(5, name(s)), 1) + print.Expr(join(8, name(s), name("a")), 2); got != "" {
			t.Errorf("Expr of the name %q = %.200q", s, got)
		}
	}
}

// chain is an expression that is as deep as asked for, of such operators in turn, with what is deep on the left or on the right.
func chain(depth int, left bool, ops ...int) []api.Expr {
	l := name("x")
	for d := 1; d < depth; d++ {
		op := ops[d%len(ops)]
		switch {
		case left && slices.Contains(twoOps, op):
			l = join(op, l, name("y"))
		default:
			l = over(op, name("y"), l)
		}
	}
	return l
}

// 12.1: expressions of depth 64, and deeper ones.
func TestDepth(t *testing.T) {
	want := map[int]string{4: strings.Repeat("not ", 63) + "x", 5: strings.Repeat("-", 63) + "x", 9: "x" + strings.Repeat(" - y", 63)}
	for op, s := range want {
		checkText(t, chain(64, true, op), s)
	}
	checkText(t, chain(64, false, 9), strings.Repeat("y - (", 62)+"y - x"+strings.Repeat(")", 62))
	for _, ops := range [][]int{{4}, {5}, {6}, {7}, {8}, {9}, {12}, {13}, {16}, {4, 5}, {5, 4}, {4, 6}, {4, 7, 5}, {5, 7}, {5, 8}, {4, 5, 13}, {4, 5, 10, 6, 8, 7, 15}} {
		for _, left := range []bool{true, false} {
			for _, depth := range []int{62, 63, 64} {
				l := chain(depth, left, ops...)
				got := print.Expr(l, len(l)-1)
				if got == "" || got != wantExpr(l, len(l)-1) {
					t.Errorf("depth %d of %v = %q", depth, ops, got)
				}
				checkRead(t, l, got)
			}
			for _, depth := range []int{65, 66, 100, 200} {
				l := chain(depth, left, ops...)
				if got := print.Expr(l, len(l)-1); got != "" {
					t.Errorf("depth %d of %v = %.200q", depth, ops, got)
				}
			}
			checkNeeded(t, chain(40, left, ops...))
		}
		checkExpr(t, chain(66, true, ops...))
	}
	for _, op := range []int{4, 8} {
		l := name("x")
		for range 1 << 16 {
			if op == 8 {
				l = append(l, api.Expr{Op: 17, Name: "y"}, api.Expr{Op: 8, A: len(l) - 1, B: len(l)})
			} else {
				l = append(l, api.Expr{Op: op, A: len(l) - 1})
			}
		}
		if got := print.Expr(l, len(l)-1); got != "" {
			t.Errorf("far too deep = %.200q", got)
		}
	}
}

// 12.1: a wide expression, of all nodes that depth 11 has.
func TestWide(t *testing.T) {
	l := name("x")
	want := "x"
	for range 5 {
		l = join(8, l, l)
		l = join(10, l, l)
		want = "(" + want + " + " + want + ") * (" + want + " + " + want + ")"
	}
	checkText(t, l, want)
}

// someName, someValue and someExpr are made by chance; the latter is at most so deep.
func someName(chance *rand.Rand) string     { return goodNames[chance.Intn(len(goodNames))] }
func someValue(chance *rand.Rand) api.Value { return goodValues[chance.Intn(len(goodValues))] }
func someExpr(chance *rand.Rand, depth int) []api.Expr {
	switch kind := chance.Intn(6); {
	case depth == 1 || kind == 0:
		if chance.Intn(2) == 0 {
			return name(someName(chance))
		}
		return constant(someValue(chance))
	case kind <= 2:
		return join(oneOps[chance.Intn(len(oneOps))], someExpr(chance, depth-1))
	}
	return join(twoOps[chance.Intn(len(twoOps))], someExpr(chance, depth-1), someExpr(chance, depth-1))
}

// 12.1, 12.2: expressions made by chance, in a row, with places of their own, as they are and with one field changed.
func TestManyExpressions(t *testing.T) {
	chance := rand.New(rand.NewSource(12))
	for range 3000 {
		var l []api.Expr
		for range 1 + chance.Intn(3) {
			x := someExpr(chance, 1+chance.Intn(6))
			checkNeeded(t, x)
			l = append(l, behind(x, len(l))...)
		}
		for i := range l {
			l[i].Line, l[i].Col = chance.Intn(5)-1, chance.Intn(100)-1
		}
		checkExpr(t, l)
		n := &l[chance.Intn(len(l))]
		switch chance.Intn(6) {
		case 0:
			n.Op = chance.Intn(20) - 1
		case 1:
			n.A += chance.Intn(3) - 1
		case 2:
			n.B += chance.Intn(3) - 1
		case 3:
			n.Name = badNames[chance.Intn(len(badNames))]
		case 4:
			n.Value = badValues[chance.Intn(len(badValues))]
		case 5:
			*n = api.Expr{Op: 17, Name: "z"}
		}
		checkExpr(t, l)
	}
}

// 12.1: symbols with no, one and several arguments of each kind.
func TestSymbol(t *testing.T) {
	num, text, truth := api.TreeArg{Kind: 1, Value: value.Int(-5)}, api.TreeArg{Kind: 1, Value: value.Str("a, \"b\"\n")}, api.TreeArg{Kind: 1, Value: value.Bool(true)}
	named, anything := api.TreeArg{Kind: 2, Name: "x"}, api.TreeArg{Kind: 3}
	for _, x := range []struct {
		args []api.TreeArg
		want string
	}{
		{nil, "e()"}, {[]api.TreeArg{}, "e()"},
		{[]api.TreeArg{num}, "e(-5)"}, {[]api.TreeArg{text}, `e("a, \"b\"\n")`}, {[]api.TreeArg{truth}, "e(true)"}, {[]api.TreeArg{named}, "e(x)"}, {[]api.TreeArg{anything}, "e(_)"},
		{[]api.TreeArg{num, num}, "e(-5, -5)"}, {[]api.TreeArg{anything, anything, anything}, "e(_, _, _)"}, {[]api.TreeArg{named, anything}, "e(x, _)"}, {[]api.TreeArg{anything, named}, "e(_, x)"},
		{[]api.TreeArg{named, num, anything, truth, text}, `e(x, -5, _, true, "a, \"b\"\n")`},
		{slices.Repeat([]api.TreeArg{named}, 9), "e(x, x, x, x, x, x, x, x, x)"},
	} {
		checkSymbol(t, api.TreeSymbol{Name: "e", Args: x.args}, x.want)
	}
	for i, v := range goodValues {
		checkSymbol(t, api.TreeSymbol{Name: "open", Args: []api.TreeArg{{Kind: 1, Value: v}}}, "open("+goodTexts[i]+")")
	}
	for _, s := range goodNames {
		checkSymbol(t, api.TreeSymbol{Name: s, Args: []api.TreeArg{{Kind: 2, Name: s}}}, s+"("+s+")")
	}
}

// R1: symbols of no tree that may be; of their texts nothing is promised, but that the call ends.
func TestOtherSymbols(t *testing.T) {
	for _, n := range append(slices.Clone(badNames), goodNames...) {
		for _, kind := range []int{math.MinInt, -1, 0, 1, 2, 3, 4, math.MaxInt} {
			for _, v := range append(slices.Clone(badValues), goodValues...) {
				s := api.TreeSymbol{Name: n, Args: []api.TreeArg{{Kind: kind, Name: n, Value: v}, {Kind: kind}}}
				if a, b := print.Symbol(s), print.Symbol(s); a != b {
					t.Fatalf("Symbol(%s) = %q, and then %q", brief(s), a, b)
				}
			}
		}
	}
}

// checkSymbol holds the text of a symbol, wherever it stands, against one that is written out.
func checkSymbol(t *testing.T, s api.TreeSymbol, want string) {
	t.Helper()
	was := slices.Clone(s.Args)
	if got := print.Symbol(s); got != want || got != wantSymbol(s) {
		t.Errorf("Symbol(%s) = %q; want %q", brief(s), got, want)
	}
	placed := s
	placed.Line, placed.Col, placed.Args = 7, -3, slices.Clone(s.Args)
	for i := range placed.Args {
		placed.Args[i].Line, placed.Args[i].Col = -i, i*7919
	}
	if got := print.Symbol(placed); got != want {
		t.Errorf("Symbol(%s) = %q; want %q", brief(placed), got, want)
	}
	x := least()
	x.Also, x.Trans = []api.TreeSymbol{s}, []api.TreeTrans{{From: x.Start, To: x.Start, On: s, Guard: -1}}
	checkTreeText(t, x, "qea a\nstart s\nalso "+want+"\ns on "+want+" to s\n")
	if !slices.Equal(s.Args, was) {
		t.Errorf("%s was changed to %s", brief(was), brief(s.Args))
	}
}

// least is the least tree there is.
func least() api.Tree {
	return api.Tree{Name: api.Ident{Text: "a"}, Start: api.Ident{Text: "s"}}
}

// full is a tree that has several of each thing.
func full() api.Tree {
	id := func(s string) api.Ident { return api.Ident{Text: s} }
	guard, first, second := join(15, join(8, name("f"), number(2)), name("y")), join(5, number(5)), constant(value.Str("\n"))
	nodes := append(slices.Clone(guard), behind(first, len(guard))...)
	nodes = append(nodes, second...)
	return api.Tree{
		Name:   id("a"),
		Decls:  []api.TreeDecl{{Name: id("open"), Types: []int{2, 1}}, {Name: id("close"), Types: []int{3}}, {Name: id("tick")}},
		Quants: []api.TreeQuant{{All: true, Name: id("x"), Type: 2}, {Name: id("y"), Type: 1}, {All: true, Name: id("z"), Type: 3}},
		Frees:  []api.TreeFree{{Name: id("f"), Value: value.Int(-7)}, {Name: id("g"), Value: value.Str("g\"")}, {Name: id("h"), Value: value.Bool(true)}},
		States: []api.TreeState{{Name: id("s"), Accept: true}, {Name: id("t")}, {Name: id("u"), Next: true}, {Name: id("v"), Next: true, Accept: true}},
		Start:  id("t"),
		Also:   []api.TreeSymbol{{Name: "tick"}, {Name: "open", Args: []api.TreeArg{{Kind: 1, Value: value.Str("k")}, {Kind: 3}}}},
		Trans: []api.TreeTrans{
			{
				From: id("s"), To: id("u"), On: api.TreeSymbol{Name: "open", Args: []api.TreeArg{{Kind: 2, Name: "x"}, {Kind: 2, Name: "y"}}},
				Nodes: nodes, Guard: 4, Sets: []api.TreeSet{{Name: id("f"), Expr: 6}, {Name: id("g"), Expr: 7}},
			},
			{
				From: id("u"), To: id("s"), On: api.TreeSymbol{Name: "close", Args: []api.TreeArg{{Kind: 1, Value: value.Bool(false)}}},
				Nodes: join(4, name("h")), Guard: -1, Sets: []api.TreeSet{{Name: id("h"), Expr: 1}},
			},
			{From: id("v"), To: id("v"), On: api.TreeSymbol{Name: "tick"}, Nodes: name("z"), Guard: 0},
			{From: id("t"), To: id("w"), On: api.TreeSymbol{Name: "tick"}, Guard: -1},
		},
	}
}

// fullText is that tree's text.
const fullText = `qea a
event open(string, int)
event close(bool)
event tick()
forall x: string
exists y: int
forall z: bool
free f = -7
free g = "g\""
free h = true
skip s accept
skip t
next u
next v accept
start t
also tick()
also open("k", _)
s on open(x, y) if f + 2 < y do f = -(5), g = "\n" to u
u on close(false) do h = not h to s
v on tick() if z to v
t on tick() to w
`

// checkTree holds a tree's text against the chapter's words, said anew, and against what is read of it.
func checkTree(t *testing.T, s api.Tree) {
	t.Helper()
	was := brief(s)
	whole := reflect.ValueOf(copied(s))
	got, want := print.Tree(s), ""
	if tree.Right(s) {
		want = wantTree(s)
	}
	if got != want {
		t.Fatalf("Tree(%s) = %.3000q; want %.3000q", was, got, want)
	}
	if again := print.Tree(s); again != got {
		t.Fatalf("Tree(%s) = %.3000q, and then %.3000q", was, got, again)
	}
	if !reflect.DeepEqual(whole.Interface(), copied(s)) {
		t.Fatalf("%s was changed to %s", was, brief(s))
	}
	if plain := print.Tree(tree.Plain(s)); plain != got {
		t.Fatalf("Tree(%s) = %.3000q; without places it is %.3000q", was, got, plain)
	}
	if want == "" {
		return
	}
	read, f := parse.Parse(got)
	if len(got) > 65536 {
		if f != (api.Fail{Err: api.ErrLong, Line: 1, Col: 1}) {
			t.Fatalf("%d bytes are read with %v", len(got), f)
		}
		return
	}
	if f != (api.Fail{}) || !tree.Same(tree.Plain(read), tree.Plain(s)) {
		t.Fatalf("Tree(%s) = %.3000q, which is read as %s, %v", was, got, brief(read), f)
	}
	if again := print.Tree(read); again != got {
		t.Fatalf("%.3000q is printed again as %.3000q", got, again)
	}
}

// checkTreeText holds a tree's text against one that is written out, and against the words.
func checkTreeText(t *testing.T, s api.Tree, want string) {
	t.Helper()
	if got := print.Tree(s); got != want {
		t.Errorf("Tree(%s) = %.3000q; want %.3000q", brief(s), got, want)
	}
	checkTree(t, s)
}

// copied is a tree of new memory, whose lists are never nil.
func copied(s api.Tree) api.Tree {
	var c api.Tree
	lay(reflect.ValueOf(&c).Elem(), reflect.ValueOf(s))
	return c
}

// lay makes of a part the same as another one, of new memory.
func lay(v, of reflect.Value) {
	switch v.Kind() {
	case reflect.Struct:
		for i := range v.NumField() {
			lay(v.Field(i), of.Field(i))
		}
	case reflect.Slice:
		v.Set(reflect.MakeSlice(v.Type(), of.Len(), of.Len()))
		for i := range v.Len() {
			lay(v.Index(i), of.Index(i))
		}
	default:
		v.Set(of)
	}
}

// 12.1: the least tree, and one that has several of each thing, line by line.
func TestTree(t *testing.T) {
	checkTreeText(t, least(), "qea a\nstart s\n")
	checkTreeText(t, full(), fullText)
}

// 12.1: of each list no thing, one, and all of them; each thing alone, and in another order.
func TestTreeLists(t *testing.T) {
	lists := []string{"Decls", "Quants", "Frees", "States", "Also", "Trans"}
	first := []string{"event", "forall exists", "free", "skip next", "also", "s t u v"}
	of := func(s *api.Tree, list string) reflect.Value { return reflect.ValueOf(s).Elem().FieldByName(list) }
	for i, list := range lists {
		whole := full()
		all := of(&whole, list)
		var inside, outside []string
		for _, line := range strings.SplitAfter(fullText, "\n") {
			word, _, _ := strings.Cut(line, " ")
			if slices.Contains(strings.Fields(first[i]), word) {
				inside = append(inside, line)
			} else {
				outside = append(outside, line)
			}
		}
		if len(inside) != all.Len() {
			t.Fatalf("%s: %q", list, inside)
		}
		place := strings.Index(fullText, inside[0])
		for from := range all.Len() + 1 {
			for to := from; to <= all.Len(); to++ {
				s := full()
				of(&s, list).Set(all.Slice(from, to))
				checkTreeText(t, s, fullText[:place]+strings.Join(inside[from:to], "")+strings.TrimPrefix(strings.Join(outside, ""), fullText[:place]))
				s = least()
				of(&s, list).Set(all.Slice(from, to))
				want := "qea a\n" + strings.Join(inside[from:to], "") + "start s\n"
				if list == "Also" || list == "Trans" {
					want = "qea a\nstart s\n" + strings.Join(inside[from:to], "")
				}
				checkTreeText(t, s, want)
			}
		}
		s := full()
		turned := reflect.MakeSlice(all.Type(), all.Len(), all.Len())
		for k := range all.Len() {
			turned.Index(all.Len() - 1 - k).Set(all.Index(k))
		}
		of(&s, list).Set(turned)
		slices.Reverse(inside)
		checkTreeText(t, s, fullText[:place]+strings.Join(inside, "")+strings.TrimPrefix(strings.Join(outside, ""), fullText[:place]))
	}
}

// 12.1: names, whatever stands twice or is declared nowhere, and kinds and values of each kind.
func TestTreeNames(t *testing.T) {
	for _, n := range goodNames {
		id := api.Ident{Text: n, Line: 3, Col: 9}
		on := api.TreeSymbol{Name: n, Args: []api.TreeArg{{Kind: 2, Name: n}}}
		s := api.Tree{
			Name: id, Start: id, Decls: []api.TreeDecl{{Name: id}, {Name: id, Types: []int{3, 3, 3, 2, 1, 1, 1, 1, 1}}}, Quants: []api.TreeQuant{{Name: id, Type: 3}, {Name: id, Type: 3}},
			Frees: []api.TreeFree{{Name: id, Value: value.Bool(false)}}, States: []api.TreeState{{Name: id}, {Name: id}}, Also: []api.TreeSymbol{on},
			Trans: []api.TreeTrans{{From: id, To: id, On: on, Nodes: append(name(n), name(n)...), Guard: 0, Sets: []api.TreeSet{{Name: id, Expr: 1}}}},
		}
		want := strings.ReplaceAll("qea N\nevent N()\nevent N(bool, bool, bool, string, int, int, int, int, int)\nexists N: bool\nexists N: bool\nfree N = false\nskip N\nskip N\nstart N\nalso N(N)\nN on N(N) if N do N = N to N\n", "N", n)
		checkTreeText(t, s, want)
	}
	for i, v := range goodValues {
		s := least()
		s.Frees = []api.TreeFree{{Name: api.Ident{Text: "f"}, Value: v}}
		s.Trans = []api.TreeTrans{{From: s.Start, To: s.Start, On: api.TreeSymbol{Name: "e"}, Nodes: constant(v), Guard: -1, Sets: []api.TreeSet{{Name: api.Ident{Text: "f"}}}}}
		checkTreeText(t, s, "qea a\nfree f = "+goodTexts[i]+"\nstart s\ns on e() do f = "+goodTexts[i]+" to s\n")
	}
	for all, quant := range map[bool]string{true: "forall", false: "exists"} {
		for kind, named := range map[int]string{1: "int", 2: "string", 3: "bool"} {
			s := least()
			s.Quants, s.Decls = []api.TreeQuant{{All: all, Name: s.Name, Type: kind}}, []api.TreeDecl{{Name: s.Name, Types: []int{kind}}}
			checkTreeText(t, s, "qea a\nevent a("+named+")\n"+quant+" a: "+named+"\nstart s\n")
		}
	}
}

// 12.1: transitions with and without a guard, and with no, one and several settings.
func TestTransitions(t *testing.T) {
	for guarded := range 2 {
		for sets := range 4 {
			s := least()
			trans := api.TreeTrans{From: s.Start, To: s.Name, On: api.TreeSymbol{Name: "e"}, Guard: -1}
			want := "qea a\nstart s\ns on e()"
			if guarded == 1 {
				trans.Nodes, trans.Guard = join(7, name("g"), number(-1)), 2
				want += " if g or -1"
			}
			for i := range sets {
				n := "f" + strconv.Itoa(i)
				trans.Nodes = append(trans.Nodes, behind(join(9, name(n), join(9, name("x"), number(5))), len(trans.Nodes))...)
				trans.Sets = append(trans.Sets, api.TreeSet{Name: api.Ident{Text: n}, Expr: len(trans.Nodes) - 1})
				want += []string{",", " do"}[max(0, 1-i)] + " " + n + " = " + n + " - (x - 5)"
			}
			s.Trans = []api.TreeTrans{trans}
			checkTreeText(t, s, want+" to a\n")
		}
	}
}

// 12.1: trees that may not be are empty, for each reason that chapter 10 has.
func TestTreesThatMayNotBe(t *testing.T) {
	empty := func(why string, change func(s *api.Tree)) {
		t.Helper()
		s := copied(full())
		change(&s)
		if got := print.Tree(s); got != "" {
			t.Errorf("%s: %.500q", why, got)
		}
		checkTree(t, s)
	}
	for _, n := range badNames {
		for i, of := range []func(s *api.Tree) *string{
			func(s *api.Tree) *string { return &s.Name.Text }, func(s *api.Tree) *string { return &s.Start.Text },
			func(s *api.Tree) *string { return &s.Decls[1].Name.Text }, func(s *api.Tree) *string { return &s.Quants[2].Name.Text },
			func(s *api.Tree) *string { return &s.Frees[0].Name.Text }, func(s *api.Tree) *string { return &s.States[3].Name.Text },
			func(s *api.Tree) *string { return &s.Also[0].Name }, func(s *api.Tree) *string { return &s.Trans[3].From.Text },
			func(s *api.Tree) *string { return &s.Trans[0].To.Text }, func(s *api.Tree) *string { return &s.Trans[1].On.Name },
			func(s *api.Tree) *string { return &s.Trans[0].On.Args[1].Name }, func(s *api.Tree) *string { return &s.Trans[0].Sets[1].Name.Text },
			func(s *api.Tree) *string { return &s.Trans[1].Nodes[0].Name },
		} {
			empty(fmt.Sprintf("name %d, %q", i, n), func(s *api.Tree) { *of(s) = n })
		}
	}
	for _, kind := range []int{math.MinInt, -1, 0, 4, 5, math.MaxInt} {
		empty("a declaration's kind", func(s *api.Tree) { s.Decls[0].Types[1] = kind })
		empty("a quantified variable's kind", func(s *api.Tree) { s.Quants[1].Type = kind })
		empty("an argument's kind", func(s *api.Tree) { s.Also[1].Args[1].Kind = kind })
	}
	for _, v := range badValues {
		empty("a free one's value", func(s *api.Tree) { s.Frees[2].Value = v })
		empty("an argument's value", func(s *api.Tree) { s.Also[1].Args[0].Value = v })
		empty("a node's value", func(s *api.Tree) { s.Trans[0].Nodes[1].Value = v })
	}
	empty("anything with a name", func(s *api.Tree) { s.Also[1].Args[1].Name = "x" })
	empty("anything with a value", func(s *api.Tree) { s.Also[1].Args[1].Value = value.Int(1) })
	empty("a value with a name", func(s *api.Tree) { s.Also[1].Args[0].Name = "x" })
	empty("a name with a value", func(s *api.Tree) { s.Trans[0].On.Args[0].Value = value.Bool(true) })
	empty("a guard below -1", func(s *api.Tree) { s.Trans[3].Guard = -2 })
	empty("a guard behind the end", func(s *api.Tree) { s.Trans[3].Guard = 0 })
	empty("a guard that is only a part", func(s *api.Tree) { s.Trans[0].Guard = 3 })
	empty("a guard left out", func(s *api.Tree) { s.Trans[0].Guard = -1 })
	empty("a setting left out", func(s *api.Tree) { s.Trans[0].Sets = s.Trans[0].Sets[:1] })
	empty("the first setting left out", func(s *api.Tree) { s.Trans[0].Sets = s.Trans[0].Sets[1:] })
	empty("settings turned", func(s *api.Tree) { slices.Reverse(s.Trans[0].Sets) })
	empty("settings of one expression", func(s *api.Tree) { s.Trans[0].Sets[1].Expr = 6 })
	empty("a setting below 0", func(s *api.Tree) { s.Trans[1].Sets[0].Expr = -1 })
	empty("a node too many", func(s *api.Tree) { s.Trans[3].Nodes = name("x") })
	empty("a node too many ahead", func(s *api.Tree) {
		s.Trans[1].Nodes, s.Trans[1].Sets[0].Expr = append(name("x"), behind(s.Trans[1].Nodes, 1)...), 2
	})
	empty("a node too few", func(s *api.Tree) { s.Trans[0].Nodes = s.Trans[0].Nodes[:7] })
	empty("a node's root elsewhere", func(s *api.Tree) { s.Trans[0].Nodes[4].A = 1 })
	empty("a node's second root where it has none", func(s *api.Tree) { s.Trans[1].Nodes[1].B = 1 })
	empty("no operator", func(s *api.Tree) { s.Trans[1].Nodes[1].Op = 0 })
	empty("api's OpFree", func(s *api.Tree) { s.Trans[2].Nodes[0] = api.Expr{Op: api.OpFree} })
	for _, depth := range []int{64, 65} {
		l := chain(depth, true, 9)
		s := least()
		on := api.TreeTrans{From: s.Start, To: s.Start, On: api.TreeSymbol{Name: "e"}, Nodes: l, Guard: len(l) - 1}
		s.Trans = []api.TreeTrans{on}
		checkTree(t, s)
		if got := print.Tree(s); (got == "") != (depth == 65) {
			t.Errorf("a guard of depth %d: %.500q", depth, got)
		}
		on.Guard, on.Sets = -1, []api.TreeSet{{Name: s.Name, Expr: len(l) - 1}}
		s.Trans = []api.TreeTrans{{From: s.Start, To: s.Start, On: on.On, Guard: -1}, on}
		checkTree(t, s)
		if got := print.Tree(s); (got == "") != (depth == 65) {
			t.Errorf("a setting of depth %d: %.500q", depth, got)
		}
	}
	checkTreeText(t, api.Tree{}, "")
	checkTreeText(t, api.Tree{Name: api.Ident{Text: "a"}}, "")
	checkTreeText(t, api.Tree{Start: api.Ident{Text: "a"}}, "")
}

// several are up to so many things, made by chance one by one.
func several[T any](chance *rand.Rand, most int, made func() T) []T {
	var l []T
	for range chance.Intn(most + 1) {
		l = append(l, made())
	}
	return l
}

// someTree is a tree that may be, made by chance, with places of its own.
func someTree(chance *rand.Rand) api.Tree {
	id := func() api.Ident {
		return api.Ident{Text: someName(chance), Line: chance.Intn(9) - 1, Col: chance.Intn(9) - 1}
	}
	kind := func() int { return 1 + chance.Intn(3) }
	arg := func() api.TreeArg {
		return []api.TreeArg{{Kind: 1, Value: someValue(chance), Line: 2}, {Kind: 2, Name: someName(chance), Col: 3}, {Kind: 3, Line: 1, Col: 1}}[chance.Intn(3)]
	}
	symbol := func() api.TreeSymbol {
		return api.TreeSymbol{Name: someName(chance), Args: several(chance, 4, arg), Line: chance.Intn(4), Col: chance.Intn(40)}
	}
	trans := func() api.TreeTrans {
		x := api.TreeTrans{From: id(), To: id(), On: symbol(), Guard: -1}
		if chance.Intn(2) == 0 {
			x.Nodes = someExpr(chance, 1+chance.Intn(5))
			x.Guard = len(x.Nodes) - 1
		}
		x.Sets = several(chance, 3, func() api.TreeSet {
			x.Nodes = append(x.Nodes, behind(someExpr(chance, 1+chance.Intn(5)), len(x.Nodes))...)
			return api.TreeSet{Name: id(), Expr: len(x.Nodes) - 1}
		})
		return x
	}
	return api.Tree{
		Name: id(), Start: id(),
		Decls:  several(chance, 3, func() api.TreeDecl { return api.TreeDecl{Name: id(), Types: several(chance, 4, kind)} }),
		Quants: several(chance, 3, func() api.TreeQuant { return api.TreeQuant{All: chance.Intn(2) == 0, Name: id(), Type: kind()} }),
		Frees:  several(chance, 3, func() api.TreeFree { return api.TreeFree{Name: id(), Value: someValue(chance)} }),
		States: several(chance, 3, func() api.TreeState {
			return api.TreeState{Name: id(), Next: chance.Intn(2) == 0, Accept: chance.Intn(2) == 0}
		}),
		Also:  several(chance, 3, symbol),
		Trans: several(chance, 4, trans),
	}
}

// 12.1, 12.2: trees made by chance, as they are and with one field changed.
func TestManyTrees(t *testing.T) {
	chance := rand.New(rand.NewSource(1212))
	for range 1500 {
		s := someTree(chance)
		if !tree.Right(s) {
			t.Fatalf("%s may not be", brief(s))
		}
		checkTree(t, s)
		for range 4 {
			changed := copied(s)
			changeTree(chance, reflect.ValueOf(&changed).Elem())
			checkTree(t, changed)
		}
	}
}

// changeTree changes one field of a tree, or of a part of it, by chance.
func changeTree(chance *rand.Rand, v reflect.Value) {
	switch v.Kind() {
	case reflect.Struct:
		changeTree(chance, v.Field(chance.Intn(v.NumField())))
	case reflect.Slice:
		if v.Len() == 0 || chance.Intn(8) == 0 {
			v.Set(v.Slice(0, v.Len()-min(v.Len(), 1)))
			return
		}
		changeTree(chance, v.Index(chance.Intn(v.Len())))
	case reflect.String:
		v.SetString(append(goodNames, badNames...)[chance.Intn(len(goodNames)+len(badNames))])
	case reflect.Bool:
		v.SetBool(!v.Bool())
	default:
		v.SetInt(v.Int() + int64(chance.Intn(5)-2))
	}
}

// someText is an expression's text, made by chance from chapter 11's form, of one of its lines, with more brackets and blanks than must be.
func someText(chance *rand.Rand, line, depth int) string {
	blank := []string{" ", " ", "  ", "\n", "\t# of\n"}[chance.Intn(5)]
	if depth == 0 {
		line = 6
	}
	row := func(below int, signs ...string) string {
		s := someText(chance, below, depth-1)
		for range chance.Intn(3) {
			s += blank + signs[chance.Intn(len(signs))] + blank + someText(chance, below, depth-1)
		}
		return s
	}
	switch line {
	case 0:
		return row(1, "or")
	case 1:
		return row(2, "and")
	case 2:
		if chance.Intn(3) == 0 {
			return "not" + blank + someText(chance, 2, depth-1)
		}
		return someText(chance, 3, depth)
	case 3:
		s := someText(chance, 4, depth-1)
		if chance.Intn(2) == 0 {
			s += []string{"==", "!=", "<", "<=", ">", ">="}[chance.Intn(6)] + blank + someText(chance, 4, depth-1)
		}
		return s
	case 4:
		return row(5, "+", "-")
	case 5:
		return row(6, "*", "/", "%")
	}
	switch kind := chance.Intn(6); {
	case depth == 0 || kind < 2:
		return []string{someName(chance), goodTexts[chance.Intn(len(goodTexts))], "- 7", "7"}[chance.Intn(4)]
	case kind < 4:
		return "-" + blank + someText(chance, 6, depth-1)
	}
	return "(" + blank + someText(chance, 0, depth-1) + ")"
}

// 12.2: what is printed of what is parsed is printed the same again, and has the same nodes.
func TestManyTexts(t *testing.T) {
	chance := rand.New(rand.NewSource(2121))
	for range 4000 {
		s := someText(chance, chance.Intn(7), chance.Intn(9))
		l, f := parse.Expr(s)
		if f != (api.Fail{}) {
			t.Fatalf("%q: %v", s, f)
		}
		checkRead(t, l, print.Expr(l, len(l)-1))
		checkNeeded(t, l)
		whole := "qea p start s s on e ( ) if " + s + "\ndo f=" + s + "\n,g =" + s + " to s"
		x, f := parse.Parse(whole)
		if f != (api.Fail{}) {
			t.Fatalf("%q: %v", whole, f)
		}
		text := print.Expr(l, len(l)-1)
		checkTreeText(t, x, "qea p\nstart s\ns on e() if "+text+" do f = "+text+", g = "+text+" to s\n")
	}
}

// 12.2: texts of a whole, laid out as they may be.
func TestLayouts(t *testing.T) {
	checkLayout := func(s, want string) {
		t.Helper()
		x, f := parse.Parse(s)
		if f != (api.Fail{}) {
			t.Fatalf("%q: %v", s, f)
		}
		checkTreeText(t, x, want)
	}
	checkLayout(fullText, fullText)
	checkLayout(strings.ReplaceAll(fullText, "\n", " # of\n\n"), fullText)
	checkLayout(strings.ReplaceAll(strings.TrimSpace(fullText), "\n", "\r\n\t"), fullText)
	checkLayout(strings.ReplaceAll(strings.ReplaceAll(fullText, ", ", ","), ": ", ":"), fullText)
	checkLayout("qea p skip s start s", "qea p\nskip s\nstart s\n")
	checkLayout("qea p event a ( int , bool )exists x:int forall y :bool free f=- 0 next n accept start n also a(x,true)n on a(_,y)if f>1 do f=-f to n", "qea p\nevent a(int, bool)\nexists x: int\nforall y: bool\nfree f = 0\nnext n accept\nstart n\nalso a(x, true)\nn on a(_, y) if 1 < f do f = -f to n\n")
}

// 12.1, 12.2: texts of as many bytes as can be read, and of one more, which are printed, too.
func TestLongTrees(t *testing.T) {
	for _, size := range []int{65535, 65536, 65537, 200000} {
		s := least()
		for left := size - len(print.Tree(s)); left > 0; {
			// A line of "free f = " and the text has that many bytes beside the text's own.
			own := len("free f = \"\"\n")
			n := min(4096, left-own)
			if rest := left - own - n; rest > 0 && rest <= own {
				n -= own
			}
			s.Frees = append(s.Frees, api.TreeFree{Name: api.Ident{Text: "f"}, Value: value.Str(strings.Repeat("t", n))})
			left -= own + n
		}
		if got := len(print.Tree(s)); got != size {
			t.Fatalf("%d bytes; want %d", got, size)
		}
		checkTree(t, s)
	}
	s := least()
	state := api.TreeTrans{From: s.Start, To: s.Start, On: api.TreeSymbol{Name: "e"}, Nodes: chain(64, true, 9), Guard: 126}
	s.Trans = slices.Repeat([]api.TreeTrans{state}, 3000)
	checkTree(t, s)
}

// FuzzExpr holds what is printed of any text that is an expression's.
func FuzzExpr(f *testing.F) {
	for _, s := range []string{"a", "-(5)", "--5", "a - (b - c) * -d", "not (a or b) and c == -5", "(a > b) >= \"x\\n\"", "((((a))))", "- - - 5 % 2"} {
		f.Add(s)
	}
	f.Fuzz(func(t *testing.T, s string) {
		l, fail := parse.Expr(s)
		if fail != (api.Fail{}) {
			return
		}
		text := print.Expr(l, len(l)-1)
		if text != wantExpr(l, len(l)-1) {
			t.Fatalf("%q is printed as %q", s, text)
		}
		checkRead(t, l, text)
		checkNeeded(t, l)
	})
}

// FuzzTree holds what is printed of any text that is a tree's.
func FuzzTree(f *testing.F) {
	f.Add(fullText)
	f.Add("qea p skip s start s")
	f.Add("qea p event a(int) forall x: int next s accept start s s on a(x) if x > 3 do f = -x, g = not h to s")
	f.Fuzz(func(t *testing.T, s string) {
		if x, fail := parse.Parse(s); fail == (api.Fail{}) {
			checkTree(t, x)
		}
	})
}
