package parse_test

import (
	"fmt"
	"math"
	"math/rand"
	"reflect"
	"slices"
	"strconv"
	"strings"
	"testing"

	"proctor/api"
	"proctor/lex"
	"proctor/parse"
	"proctor/tree"
)

// What may stand where names, kinds, values and operators do, as the chapters have them.
var (
	words      = strings.Split("accept, also, and, bool, do, event, exists, false, forall, free, if, int, next, not, on, or, qea, skip, start, string, to, true", ", ")
	signs      = strings.Split("== != <= >= < > = ( ) , : + - * / %", " ")
	operators  = strings.Split("or and == != < <= > >= + - * / %", " ")
	longName   = strings.Repeat("n", 32)
	longText   = strings.Repeat("t", 4096)
	mostNumber = "9223372036854775807"
	overNumber = "9223372036854775808"
	overOver   = "9223372036854775809"
)

// wholeText has each line of the form, and within them what may stand there none, one or several times.
const wholeText = `qea p
event a(int, string)
event b()
event c(bool)
forall x: int
exists y: string
forall z: bool
free f = -5
free g = "z"
free h = true
free i = 7
skip s accept
next t
next u accept
skip v
start s
also b()
also a(_, "k")
also c(false)
s on a(x, _) if f < 3 and not g == "q" do f = f + 1, g = "" to t
t on a(-7, y) to s
t on c(z) if (f - 1) * -i >= i % 2 or h to u
u on b() do h = not (h != false) to v
v on a(x, y) do f = -x, i = --1 / 2, h = 1 <= 2 to s
`

// fail is what is wrong, at which line and column.
func fail(e api.Errno, line, col int) api.Fail { return api.Fail{Err: e, Line: line, Col: col} }

// brief is how a thing is shown, cut where it is too long to be read.
func brief(x any) string {
	s := fmt.Sprintf("%+v", x)
	return strings.ToValidUTF8(s[:min(len(s), 1500)], "?")
}

// textsOf are the tokens of a text, as they stand.
func textsOf(t *testing.T, s string) []string {
	t.Helper()
	tokens, f := lex.All(s)
	if f != (api.Fail{}) {
		t.Fatalf("All(%.200q): %v", s, f)
	}
	var texts []string
	for _, x := range tokens {
		texts = append(texts, lex.Text(x))
	}
	return texts
}

// colOf is the column at which a token stands, by its number, of tokens with a blank between any two.
func colOf(texts []string, at int) int {
	return len(strings.Join(texts[:at], " ")) + min(at, 1) + 1
}

// shape is nodes as a text: values and names as they are, operators by what they stand for.
func shape(l []api.Expr) string {
	var out []string
	for _, n := range l {
		switch {
		case n.Op == 17:
			out = append(out, n.Name)
		case n.Op == 1 && n.Value.Kind == 1:
			out = append(out, strconv.FormatInt(n.Value.Int, 10))
		case n.Op == 1 && n.Value.Kind == 2:
			out = append(out, strconv.Quote(n.Value.Str))
		case n.Op == 1:
			out = append(out, strconv.FormatBool(n.Value.Bool))
		default:
			out = append(out, []string{"not", "neg", "and", "or", "add", "sub", "mul", "div", "mod", "eq", "ne", "lt", "le"}[n.Op-4])
		}
	}
	return strings.Join(out, " ")
}

// placesOf are the columns of nodes that stand in one line.
func placesOf(l []api.Expr) []int {
	var cols []int
	for _, n := range l {
		cols = append(cols, n.Col)
	}
	return cols
}

// check holds what is told of a text against the chapter's words, said anew.
func check(t *testing.T, s string) {
	t.Helper()
	was := strings.Clone(s)
	want, wrong := wantTree(s)
	got, f := parse.Parse(s)
	if f != wrong || !tree.Same(got, want) {
		t.Fatalf("Parse(%.3000q) = %s, %v; want %s, %v", s, brief(got), f, brief(want), wrong)
	}
	if f != (api.Fail{}) && !reflect.DeepEqual(got, api.Tree{}) {
		t.Fatalf("Parse(%.3000q) = %s beside %v", s, brief(got), f)
	}
	if f == (api.Fail{}) && !tree.Right(got) {
		t.Fatalf("Parse(%.3000q) = %s, which may not be", s, brief(got))
	}
	if s != was {
		t.Fatalf("%.3000q behind Parse; it was %.3000q", s, was)
	}
}

// checkExpr holds what is told of an expression's text against the chapter's words, said anew.
func checkExpr(t *testing.T, s string) {
	t.Helper()
	was := strings.Clone(s)
	want, wrong := wantExpr(s)
	got, f := parse.Expr(s)
	if f != wrong || !slices.Equal(got, want) {
		t.Fatalf("Expr(%.3000q) = %s, %v; want %s, %v", s, brief(got), f, brief(want), wrong)
	}
	if f != (api.Fail{}) && got != nil {
		t.Fatalf("Expr(%.3000q) = %s beside %v", s, brief(got), f)
	}
	if last := len(got) - 1; f == (api.Fail{}) && (tree.Size(got, last) != len(got) || tree.Depth(got, last) > 64) {
		t.Fatalf("Expr(%.3000q) = %s, of which the last is no root", s, brief(got))
	}
	if s != was {
		t.Fatalf("%.3000q behind Expr; it was %.3000q", s, was)
	}
}

// checkFail holds what is wrong with a text against an error at a place, and against the words.
func checkFail(t *testing.T, s string, want api.Fail) {
	t.Helper()
	if got, f := parse.Parse(s); f != want || !reflect.DeepEqual(got, api.Tree{}) {
		t.Errorf("Parse(%.200q) = %s, %v; want %v", s, brief(got), f, want)
	}
	check(t, s)
}

// checkExprFail holds what is wrong with an expression against an error at a place, with that of a guard, of a setting and of a second setting, and against the words.
func checkExprFail(t *testing.T, s string, want api.Fail) {
	t.Helper()
	if got, f := parse.Expr(s); f != want || got != nil {
		t.Errorf("Expr(%.200q) = %s, %v; want %v", s, brief(got), f, want)
	}
	checkExpr(t, s)
	// What stands behind would have it go on otherwise, if it were not whole.
	if want.Err == api.ErrSyntax {
		return
	}
	for _, ahead := range []string{"qea p start s s on a ( ) if\n", "qea p start s s on a ( ) do f =\n", "qea p start s s on a ( ) if 1 do f = f , g =\n"} {
		checkFail(t, ahead+s+"\nto s", fail(want.Err, want.Line+1, want.Col))
	}
}

// checkShape holds the nodes of an expression against those that are written out, and against the words.
func checkShape(t *testing.T, s, want string) {
	t.Helper()
	l, f := parse.Expr(s)
	if f != (api.Fail{}) || shape(l) != want {
		t.Errorf("Expr(%.200q) = %.300s, %v; want %.300s", s, shape(l), f, want)
	}
	checkExpr(t, s)
}

// checkAlike holds two texts of one expression against each other, whatever their places are.
func checkAlike(t *testing.T, a, b string) {
	t.Helper()
	l, f := parse.Expr(a)
	m, e := parse.Expr(b)
	for i := range l {
		l[i].Line, l[i].Col = 0, 0
	}
	for i := range m {
		m[i].Line, m[i].Col = 0, 0
	}
	if f != (api.Fail{}) || e != (api.Fail{}) || len(l) == 0 || !slices.Equal(l, m) {
		t.Errorf("Expr(%q) = %s, %v; Expr(%q) = %s, %v", a, shape(l), f, b, shape(m), e)
	}
	checkExpr(t, a)
	checkExpr(t, b)
}

// 11.1, 11.2: no text, and texts of blanks and remarks alone.
func TestNothing(t *testing.T) {
	for _, s := range []string{"", " ", "\n", "\t\r\n \n", "# a", "\n# qea p start s\n", strings.Repeat("\n", 65536), "#"} {
		checkFail(t, s, fail(api.ErrSyntax, 1, 1))
		checkExprFail(t, s, fail(api.ErrSyntax, 1, 1))
	}
}

// 11.1: a tree that is written out, with all its places.
func TestWholeTree(t *testing.T) {
	id := func(s string, line, col int) api.Ident { return api.Ident{Text: s, Line: line, Col: col} }
	want := api.Tree{
		Name:   id("p", 1, 5),
		Decls:  []api.TreeDecl{{Name: id("a", 2, 7), Types: []int{1, 2, 3}}, {Name: id("b", 3, 7)}},
		Quants: []api.TreeQuant{{All: true, Name: id("x", 4, 8), Type: 1}, {Name: id("y", 4, 22), Type: 2}},
		Frees:  []api.TreeFree{{Name: id("f", 5, 6), Value: api.Value{Kind: 1, Int: -5}}, {Name: id("g", 6, 6), Value: api.Value{Kind: 2, Str: "z"}}, {Name: id("h", 6, 17), Value: api.Value{Kind: 3}}},
		States: []api.TreeState{{Name: id("s", 7, 6), Accept: true}, {Name: id("t", 8, 6), Next: true}, {Name: id("u", 8, 13), Next: true, Accept: true}, {Name: id("v", 8, 27)}},
		Start:  id("s", 9, 7),
		Also:   []api.TreeSymbol{{Name: "b", Line: 10, Col: 6}, {Name: "a", Line: 10, Col: 15, Args: []api.TreeArg{{Kind: 1, Value: api.Value{Kind: 1, Int: -1}, Line: 10, Col: 17}, {Kind: 3, Line: 10, Col: 22}, {Kind: 1, Value: api.Value{Kind: 3, Bool: true}, Line: 10, Col: 25}}}},
		Trans: []api.TreeTrans{
			{From: id("s", 11, 1), To: id("t", 12, 21), On: api.TreeSymbol{Name: "a", Line: 11, Col: 6, Args: []api.TreeArg{{Kind: 2, Name: "x", Line: 11, Col: 8}, {Kind: 1, Value: api.Value{Kind: 2, Str: "q"}, Line: 11, Col: 11}, {Kind: 3, Line: 11, Col: 16}}},
				Nodes: []api.Expr{{Op: 17, Name: "x", Line: 11, Col: 22}, {Op: 1, Value: api.Value{Kind: 1, Int: -3}, Line: 11, Col: 26}, {Op: 15, A: 0, B: 1, Line: 11, Col: 24},
					{Op: 17, Name: "f", Line: 12, Col: 8}, {Op: 5, A: 3, Line: 12, Col: 7},
					{Op: 1, Value: api.Value{Kind: 3, Bool: true}, Line: 12, Col: 13}},
				Guard: 2, Sets: []api.TreeSet{{Name: id("f", 12, 4), Expr: 4}, {Name: id("h", 12, 11), Expr: 5}}},
			{From: id("t", 13, 1), To: id("t", 13, 13), On: api.TreeSymbol{Name: "b", Line: 13, Col: 6}, Guard: -1},
		},
	}
	s := `qea p
event a(int, string, bool)
event b()
forall x: int exists y: string
free f = -5
free g="z" free h = false
skip s accept
next t next u accept skip v
start s
also b() also a(- 1, _, true)
s on a(x, "q", _) if x < - 3
do f =-f, h=true to t
t on b() to t
`
	got, f := parse.Parse(s)
	if f != (api.Fail{}) || !reflect.DeepEqual(got, want) {
		t.Fatalf("Parse = %+v, %v; want %+v", got, f, want)
	}
	check(t, s)
}

// 11.1: each line of the form once, several times, and not at all where it may, with what may stand in it none, one or several times.
func TestLines(t *testing.T) {
	parts := [][]string{
		{"", "event a()", "event a(int)", "event a(int, string, bool, int) event b() event a(bool)"},
		{"", "forall x: int", "exists x: string", "exists x: bool forall y: int forall x: int exists z: string"},
		{"", "free f = 0", `free f = -1 free f = "" free g = false`},
		{"", "skip s", "next s accept", "skip s accept next t next s skip u accept"},
		{"start s"},
		{"", "also a()", "also a(x)", `also a(_, x, 1, -1, "q", true, false) also a() also b(_)`},
		{"", "s on a() to s", "s on a(_) if x to t", "s on a() do f = 1 to s", "s on a() if not x do f = 1, g = x + 1, f = f to t s on b(x, y) to s s on a() if 1 to s"},
	}
	texts := []string{"qea p"}
	for _, lines := range parts {
		var more []string
		for _, s := range texts {
			for _, line := range lines {
				more = append(more, s+"\n"+line)
			}
		}
		texts = more
	}
	for _, s := range texts {
		if _, f := parse.Parse(s); f != (api.Fail{}) {
			t.Fatalf("Parse(%q): %v", s, f)
		}
		check(t, s)
	}
	check(t, wholeText)
}

// 11.1: many of each, also more than an automaton may have of them.
func TestManyOfEach(t *testing.T) {
	const many = 300
	some := func(s string) string { return strings.Repeat(s, many) }
	text := "qea p event a(int" + some(", int") + ") " + some("event b() ") + some("forall x: int ") + some("free f = 1 ") + some("next s ") + "start s " + some("also a() ") + "also a(_" + some(", _") + ") " +
		some("s on a() to s ") + "s on a() do f = 1" + some(", f = f + 1") + " to s"
	s, f := parse.Parse(text)
	if f != (api.Fail{}) || len(s.Decls) != many+1 || len(s.Decls[0].Types) != many+1 || len(s.Quants) != many || len(s.Frees) != many || len(s.States) != many || len(s.Also) != many+1 || len(s.Also[many].Args) != many+1 || len(s.Trans) != many+1 {
		t.Fatalf("%s, %v", brief(s), f)
	}
	if x := s.Trans[many]; len(x.Sets) != many+1 || len(x.Nodes) != 3*many+1 || x.Sets[many].Expr != 3*many || x.Guard != -1 {
		t.Fatal(brief(x))
	}
	check(t, text)
}

// 11.1: each token of each line left out, put twice, and put in the place of another one.
func TestTokensInTurn(t *testing.T) {
	t.Parallel()
	texts := textsOf(t, wholeText)
	others := slices.Concat(words, signs, []string{"k", "_", "0", "12", overNumber, `"k"`, `"to"`, `"("`})
	for i := range texts {
		for j := i; j <= i+1; j++ {
			check(t, strings.Join(slices.Concat(texts[:i], texts[j:]), " "))
			check(t, strings.Join(slices.Concat(texts[:j], texts[i:]), " "))
		}
		check(t, strings.Join(texts[:i], " "))
		check(t, strings.Join(texts[i:], " "))
		for _, other := range others {
			check(t, strings.Join(slices.Concat(texts[:i], []string{other}, texts[i+1:]), " "))
			check(t, strings.Join(slices.Concat(texts[:i], []string{other}, texts[i:]), " "))
		}
	}
}

// 11.1: where it is told that a token can't stand there, or that something must stand behind the last one.
func TestWhereSyntaxIsTold(t *testing.T) {
	for _, x := range []struct {
		s   string
		col int
	}{
		{"qea", 1}, {"p", 1}, {"start s", 1}, {"(", 1}, {"_", 1}, {"7", 1}, {`"qea" p start s`, 1}, {"qea qea p", 5}, {"qea _", 5}, {"qea if start s", 5}, {"qea 5", 5}, {`qea "p" start s`, 5},
		{"qea p", 5}, {"qea p p", 7}, {"qea p start", 7}, {"qea p start _", 13}, {"qea p start start", 13}, {"qea p start s s", 15}, {"qea p start s 1", 15}, {"qea p start s start s", 15}, {"qea p start s skip s", 15}, {"qea p also a() start s", 7},
		{"qea p event", 7}, {"qea p event a", 13}, {"qea p event a(", 14}, {"qea p event a(int", 15}, {"qea p event a(int)", 18}, {"qea p event a() b() start s", 17}, {"qea p event a(,)", 15}, {"qea p event a(int,)", 19}, {"qea p event a(int int)", 19}, {"qea p event a(int,,int)", 19},
		{"qea p event a(x) start s", 15}, {"qea p event a(_) start s", 15}, {"qea p event a(1) start s", 15}, {`qea p event a("int") start s`, 15}, {"qea p event a int) start s", 15}, {"qea p event (int) start s", 13}, {"qea p event int(int) start s", 13}, {"qea p event a((int)) start s", 15},
		{"qea p forall", 7}, {"qea p forall x", 14}, {"qea p forall x:", 15}, {"qea p forall x: int", 17}, {"qea p forall x int start s", 16}, {"qea p forall : int start s", 14}, {"qea p forall x: y start s", 17}, {"qea p forall x: int, y: int start s", 20}, {"qea p exists exists: int start s", 14}, {"qea p exists _: int start s", 14}, {"qea p exists x = int start s", 16},
		{"qea p forall x: int event a() start s", 21}, {"qea p free f = 1 forall x: int start s", 18}, {"qea p skip s free f = 1 start s", 14}, {"qea p skip s event a() start s", 14}, {"qea p start s free f = 1", 15},
		{"qea p free", 7}, {"qea p free f", 12}, {"qea p free f =", 14}, {"qea p free f = 1", 16}, {"qea p free f = -", 16}, {"qea p free f = - -1 start s", 18}, {"qea p free f = -(1) start s", 17}, {"qea p free f = -x start s", 17}, {"qea p free f = -true start s", 17}, {`qea p free f = -"a" start s`, 17}, {"qea p free f = x start s", 16}, {"qea p free f = _ start s", 16}, {"qea p free f = int start s", 16},
		{"qea p free f = 1 + 1 start s", 18}, {"qea p free f = not true start s", 16}, {"qea p free f = (1) start s", 16}, {"qea p free f == 1 start s", 14}, {"qea p free f : 1 start s", 14}, {"qea p free f 1 start s", 14}, {"qea p free f = 1, g = 1 start s", 17}, {"qea p free f = + 1 start s", 16},
		{"qea p skip", 7}, {"qea p skip s", 12}, {"qea p skip s accept", 14}, {"qea p next s accept accept start s", 21}, {"qea p accept skip s start s", 7}, {"qea p skip accept start s", 12}, {"qea p skip s t start s", 14}, {"qea p skip next s start s", 12},
		{"qea p start s also", 15}, {"qea p start s also b", 20}, {"qea p start s also b(", 21}, {"qea p start s also b(x", 22}, {"qea p start s also b(x,", 23}, {"qea p start s also b(-", 22}, {"qea p start s also b(,", 22}, {"qea p start s also b(x y)", 24}, {"qea p start s also b(x,)", 24}, {"qea p start s also b(x,,y)", 24}, {"qea p start s also _()", 20}, {"qea p start s also b() to s", 24}, {"qea p start s also b(-x)", 23},
		{"qea p start s also b(1 + 1)", 24}, {"qea p start s also b((x))", 22}, {"qea p start s also b(not x)", 22}, {"qea p start s also b(int)", 22}, {"qea p start s also b(- - 1)", 24}, {"qea p start s also b(b())", 23}, {"qea p start s also b(_ _)", 24}, {"qea p start s also on a() to s", 20},
		{"qea p start s s on", 17}, {"qea p start s s to s", 17}, {"qea p start s s on a", 20}, {"qea p start s s on a()", 22}, {"qea p start s s on a() if", 24}, {"qea p start s s on a() do", 24}, {"qea p start s s on a() if do f = 1 to s", 27}, {"qea p start s s on a() if to s", 27}, {"qea p start s s on a() do to s", 27}, {"qea p start s s on a() to", 24}, {"qea p start s s on a() to _", 27}, {"qea p start s s on a() to s to s", 29},
		{"qea p start s s on a() do f", 27}, {"qea p start s s on a() do f =", 29}, {"qea p start s s on a() do f = 1", 31}, {"qea p start s s on a() do f = 1,", 32}, {"qea p start s s on a() do f = 1, to s", 34}, {"qea p start s s on a() do f = 1 g = 2 to s", 33}, {"qea p start s s on a() do f == 1 to s", 29}, {"qea p start s s on a() do f = 1 if 1 to s", 33}, {"qea p start s s on a() do f = 1 do g = 1 to s", 33}, {"qea p start s s on a() do _ = 1 to s", 27},
		{"qea p start s s on a() if 1, 2 to s", 28}, {"qea p start s s on a() if 1 = 2 to s", 29}, {"qea p start s s on a() if f(1) to s", 28}, {"qea p start s s on a() if 1) to s", 28}, {"qea p start s s on a() if (1 to s", 30}, {"qea p start s s on a() if (1", 28}, {"qea p start s s on a() if () to s", 28}, {"qea p start s s on a() if a : b to s", 29},
		{"qea p start s s on a() if 1 < 2 < 3 to s", 33}, {"qea p start s s on a() to s also b()", 29}, {"qea p start s s on a() to s on b() to s", 29}, {"qea p start s also b() also", 24}, {"qea p start s s on a() to s qea q", 29}, {"qea p start s s on (x) to s", 20}, {"qea p start s s a() to s", 17}, {"qea p start s _ on a() to s", 15},
	} {
		checkFail(t, x.s, fail(api.ErrSyntax, 1, x.col))
		checkFail(t, "# a\n\n"+strings.ReplaceAll(x.s, " ", "\t")+" \n", fail(api.ErrSyntax, 3, x.col))
	}
}

// 11.1, 11.2: what is wrong with a token is told ahead of all else, wherever it stands.
func TestWrongTokens(t *testing.T) {
	deep := strings.Repeat("a + ", 64) + "a"
	for _, x := range []struct {
		token string
		e     api.Errno
	}{
		{"$", api.ErrText}, {"!", api.ErrText}, {"\x80", api.ErrText}, {".", api.ErrText}, {"01", api.ErrForm}, {"1b", api.ErrForm}, {longName + "n", api.ErrLong}, {strings.Repeat("1", 33), api.ErrLong}, {`"` + longText + `t"`, api.ErrLong}, {`"`, api.ErrQuote}, {`"\q"`, api.ErrQuote},
	} {
		checkFail(t, x.token, fail(x.e, 1, 1))
		checkFail(t, "qea p start s "+x.token, fail(x.e, 1, 15))
		checkFail(t, "qea "+x.token+" start s", fail(x.e, 1, 5))
		checkExprFail(t, "a +\n "+x.token, fail(x.e, 2, 2))
		for _, ahead := range []string{") )", "qea qea", "1 2", "start s", "qea p start", "qea p free f = " + overNumber, "qea p start s s on a() if " + deep + " to s", "qea p start s s on a() if 1 < 2 < 3 to s", "qea p start s s on a() if " + strings.Repeat("(", 129)} {
			checkFail(t, ahead+"\n\n  "+x.token, fail(x.e, 3, 3))
			checkFail(t, ahead+"\n\n  "+x.token+" $ 01", fail(x.e, 3, 3))
		}
		for _, ahead := range []string{"1 2", ")", overNumber, "-" + overOver, deep, strings.Repeat("(", 129), strings.Repeat("not ", 129), strings.Repeat("-", 129), "1 < 2 < 3", "not", "_"} {
			checkExprFail(t, ahead+" "+x.token, fail(x.e, 1, len(ahead)+2))
		}
	}
	for _, s := range []string{strings.Repeat(" ", 65537), "qea p start s" + strings.Repeat("\n", 65536), "(" + strings.Repeat(" ", 65536), strings.Repeat("(", 65537), "$" + strings.Repeat("a", 65536)} {
		checkFail(t, s, fail(api.ErrLong, 1, 1))
		if l, f := parse.Expr(s); f != fail(api.ErrLong, 1, 1) || l != nil {
			t.Errorf("Expr(%.50q): %s, %v", s, brief(l), f)
		}
	}
	checkFail(t, strings.Repeat("(", 65536), fail(api.ErrSyntax, 1, 1))
	if _, f := parse.Expr(strings.Repeat("(", 65536)); f != fail(api.ErrDepth, 1, 129) {
		t.Fatal(f)
	}
	s := "qea p start s"
	if got, f := parse.Parse(s + strings.Repeat(" ", 65536-len(s))); f != (api.Fail{}) || got.Start.Col != 13 {
		t.Fatal(brief(got), f)
	}
}

// 11.1: what is no name stands in no place of one; other tokens that say the same are none.
func TestNames(t *testing.T) {
	const names = "qea N event N ( ) forall N : int free N = 1 skip N start N also N ( N ) N on N ( N ) if N do N = N to N"
	texts := strings.Split(names, " ")
	for _, good := range []string{"x", "Z9_", "__", "_0", "If", "QEA", "truer", "n_o_t", longName} {
		check(t, strings.ReplaceAll(names, "N", good))
		if s, f := parse.Parse(strings.ReplaceAll(names, "N", good)); f != (api.Fail{}) || s.Name.Text != good || s.Trans[0].To.Text != good || s.Trans[0].Nodes[0].Name != good {
			t.Fatal(brief(s), f)
		}
	}
	for i, x := range texts {
		if x != "N" {
			continue
		}
		for _, bad := range slices.Concat([]string{"_", "0", "12", `"x"`, `""`, "-", "(", "=", ","}, words) {
			l := strings.Split(strings.ReplaceAll(names, "N", "n"), " ")
			l[i] = bad
			s := strings.Join(l, " ")
			check(t, s)
			isArg := texts[i-1] == "("
			isNode := texts[i-1] == "if" || texts[i-1] == "="
			isValue := slices.Contains([]string{"0", "12", `"x"`, `""`, "true", "false"}, bad)
			begins := isNode && slices.Contains([]string{"(", "not", "-"}, bad) || isArg && bad == "-" || bad == "also" && texts[i-1] == ")"
			switch {
			case isValue && (isArg || isNode), bad == "_" && isArg:
				if _, f := parse.Parse(s); f != (api.Fail{}) {
					t.Errorf("Parse(%q): %v", s, f)
				}
			case begins:
				// What begins something else that may stand there is not what can't stand there.
				if _, f := parse.Parse(s); f == fail(api.ErrSyntax, 1, colOf(l, i)) {
					t.Errorf("Parse(%q): %v", s, f)
				}
			default:
				checkFail(t, s, fail(api.ErrSyntax, 1, colOf(l, i)))
			}
		}
	}
}

// 11.1, 11.2: values of each kind, wherever they may stand.
func TestValues(t *testing.T) {
	for _, x := range []struct {
		s    string
		want api.Value
	}{
		{"0", api.Value{Kind: 1}}, {"-0", api.Value{Kind: 1}}, {"- 0", api.Value{Kind: 1}}, {"1", api.Value{Kind: 1, Int: 1}}, {"-1", api.Value{Kind: 1, Int: -1}}, {"-\n# a\n 10", api.Value{Kind: 1, Int: -10}},
		{mostNumber, api.Value{Kind: 1, Int: math.MaxInt64}}, {"-" + mostNumber, api.Value{Kind: 1, Int: -math.MaxInt64}}, {"-" + overNumber, api.Value{Kind: 1, Int: math.MinInt64}}, {"- " + overNumber, api.Value{Kind: 1, Int: math.MinInt64}},
		{`""`, api.Value{Kind: 2}}, {`"a"`, api.Value{Kind: 2, Str: "a"}}, {`"-5"`, api.Value{Kind: 2, Str: "-5"}}, {`"true"`, api.Value{Kind: 2, Str: "true"}}, {`"("`, api.Value{Kind: 2, Str: "("}}, {`"_"`, api.Value{Kind: 2, Str: "_"}}, {`"to s # a"`, api.Value{Kind: 2, Str: "to s # a"}}, {`"a\"\\\n\x00\xff"`, api.Value{Kind: 2, Str: "a\"\\\n\x00\xff"}}, {`"` + longText + `"`, api.Value{Kind: 2, Str: longText}},
		{"true", api.Value{Kind: 3, Bool: true}}, {"false", api.Value{Kind: 3}},
	} {
		if l, f := parse.Expr(" " + x.s); f != (api.Fail{}) || !slices.Equal(l, []api.Expr{{Op: 1, Value: x.want, Line: 1, Col: 2}}) {
			t.Errorf("Expr(%.100q) = %s, %v", x.s, brief(l), f)
		}
		checkExpr(t, x.s)
		s := "qea p free f = " + x.s + "\nstart s also a(" + x.s + ", _) s on a(\n" + x.s + ") if\n" + x.s + " do f = " + x.s + " to s"
		got, f := parse.Parse(s)
		if f != (api.Fail{}) || got.Frees[0].Value != x.want || got.Also[0].Args[0].Value != x.want || got.Trans[0].On.Args[0].Value != x.want || got.Trans[0].Nodes[0].Value != x.want || got.Trans[0].Nodes[1].Value != x.want {
			t.Errorf("Parse(%.100q) = %s, %v", s, brief(got), f)
		}
		if arg := got.Trans[0].On.Args[0]; arg.Kind != tree.Const || arg.Col != 1 || arg.Name != "" {
			t.Errorf("Parse(%.100q): argument %+v", s, arg)
		}
		check(t, s)
	}
}

// 11.1, 11.2: numbers that are too great for their values are told at the number itself, not at the - ahead.
func TestTooGreatNumbers(t *testing.T) {
	for _, x := range []struct{ sign, number string }{
		{"", overNumber}, {"", overOver}, {"", "1" + strings.Repeat("0", 31)}, {"", strings.Repeat("9", 32)}, {"-", overOver}, {"- ", overOver}, {"-", "1" + strings.Repeat("0", 31)}, {"-  ", strings.Repeat("9", 32)},
	} {
		checkExprFail(t, x.sign+x.number, fail(api.ErrRange, 1, 1+len(x.sign)))
		checkExprFail(t, "a * ("+x.sign+x.number+")", fail(api.ErrRange, 1, 6+len(x.sign)))
		checkExprFail(t, "a +\n "+x.sign+x.number, fail(api.ErrRange, 2, 2+len(x.sign)))
		checkExprFail(t, "not - (not "+x.sign+x.number+" )", fail(api.ErrRange, 1, 12+len(x.sign)))
		checkFail(t, "qea p free f =\n"+x.sign+x.number, fail(api.ErrRange, 2, 1+len(x.sign)))
		checkFail(t, "qea p free f =\n"+x.sign+x.number+" free free", fail(api.ErrRange, 2, 1+len(x.sign)))
		checkFail(t, "qea p start s also a(_,\n"+x.sign+x.number, fail(api.ErrRange, 2, 1+len(x.sign)))
		checkFail(t, "qea p start s s on a(\n"+x.sign+x.number+") to t", fail(api.ErrRange, 2, 1+len(x.sign)))
		checkFail(t, "qea p free = 1 free g =\n"+x.sign+x.number, fail(api.ErrSyntax, 1, 12))
		checkFail(t, "qea p free f = "+overNumber+" free g =\n"+x.sign+x.number, fail(api.ErrRange, 1, 16))
	}
	// A - that joins two expressions is no value's.
	checkExprFail(t, "a -"+overNumber, fail(api.ErrRange, 1, 4))
	checkExprFail(t, "1-"+overNumber, fail(api.ErrRange, 1, 3))
	checkExprFail(t, "(a) - "+overNumber, fail(api.ErrRange, 1, 7))
	checkExprFail(t, "-("+overNumber+")", fail(api.ErrRange, 1, 3))
	checkShape(t, "a --"+overNumber, "a -9223372036854775808 sub")
	checkShape(t, "- -"+overNumber, "-9223372036854775808 neg")
	checkExprFail(t, "a b "+overNumber, fail(api.ErrSyntax, 1, 3))
	checkExprFail(t, overNumber+" b", fail(api.ErrRange, 1, 1))
}

// 11.2: a - just ahead of a number is the value's where a value may stand, else an operator.
func TestMinus(t *testing.T) {
	for s, want := range map[string]string{
		"-5": "-5", "- 5": "-5", "--5": "-5 neg", "---5": "-5 neg neg", "-(5)": "5 neg", "-(-5)": "-5 neg", "-a": "a neg", "--a": "a neg neg", `-"a"`: `"a" neg`, "-true": "true neg", "-_a": "_a neg",
		"a-5": "a 5 sub", "a - 5": "a 5 sub", "a--5": "a -5 sub", "a - - 5": "a -5 sub", "a---5": "a -5 neg sub", "5-5": "5 5 sub", "5 -5-5": "5 5 sub 5 sub", "-5-5": "-5 5 sub", "-5--5": "-5 -5 sub", "(a)-5": "a 5 sub", "(-5)": "-5", "(a-5)": "a 5 sub", "-(a)-5": "a neg 5 sub",
		"a*-5": "a -5 mul", "-5*a": "-5 a mul", "-a*-5": "a neg -5 mul", "a<-5": "a -5 lt", "-5<a": "-5 a lt", "not -5": "-5 not", "a and -5": "a -5 and", "-a*b": "a neg b mul", "-a-b": "a neg b sub", "-(a*b)": "a b mul neg", "a%-b": "a b neg mod", "a/-b/-5": "a b neg div -5 div", "-a<-b": "a neg b neg lt", `"a"-5`: `"a" 5 sub`, "true-5": "true 5 sub",
	} {
		checkShape(t, s, want)
	}
	for s, col := range map[string]int{"-": 1, "- -": 3, "a -": 3, "-not a": 2, "-)": 2, "-*a": 2, "(-)": 3, "-or": 2, "- 5 5": 5, "-a 5": 4, "-_": 2} {
		checkExprFail(t, s, fail(api.ErrSyntax, 1, col))
	}
	l, _ := parse.Expr("- 5 - - a - -7")
	if shape(l) != "-5 a neg sub -7 sub" || !slices.Equal(placesOf(l), []int{1, 9, 7, 5, 13, 11}) {
		t.Fatal(shape(l), placesOf(l))
	}
}

// level says anew how strongly an operator that joins two expressions holds together: each line of the form more strongly than the one above it.
func level(op string) int {
	return slices.IndexFunc([]string{" or ", " and ", " == != < <= > >= ", " + - ", " * / % "}, func(line string) bool { return strings.Contains(line, " "+op+" ") })
}

// 11.2: each operator alone.
func TestOperators(t *testing.T) {
	for s, want := range map[string]string{
		"a or b": "a b or", "a and b": "a b and", "not a": "a not", "a == b": "a b eq", "a != b": "a b ne", "a < b": "a b lt", "a <= b": "a b le", "a > b": "b a lt", "a >= b": "b a le",
		"a + b": "a b add", "a - b": "a b sub", "a * b": "a b mul", "a / b": "a b div", "a % b": "a b mod", "-a": "a neg", "a": "a", "(a)": "a", "((a))": "a", "0": "0", "true": "true", `"x"`: `"x"`, "not not a": "a not not", "not (a)": "a not", "not -a": "a neg not", "(not a)": "a not",
	} {
		checkShape(t, s, want)
	}
	for _, s := range []string{"", "a", "_", "(", ")", "a b", "a _", "()", "(a", "a)", "(a))", "((a)", "a (b)", "(a) b", "a not b", "not", "a not", "1 2", `1 "a"`, "true false", "a = b", "a : b", "a, b", "a if b", "to", "int", "a == not b", "a + not b", "-not a", "a * not b", "* a", "a ** b", "a == == b", "a and and b", "a or and b", "not and a", "not or", "a b c"} {
		checkExpr(t, s)
	}
	for _, op := range operators {
		checkExprFail(t, op, fail(api.ErrSyntax, 1, 1))
		checkExprFail(t, "a "+op, fail(api.ErrSyntax, 1, 3))
		checkExprFail(t, "a\n"+op, fail(api.ErrSyntax, 2, 1))
		checkExprFail(t, "a "+op+" )", fail(api.ErrSyntax, 1, 4+len(op)))
		checkExprFail(t, "(a "+op+")", fail(api.ErrSyntax, 1, 4+len(op)))
		checkExprFail(t, "a "+op+" b c", fail(api.ErrSyntax, 1, 6+len(op)))
		if op != "-" {
			checkExprFail(t, op+" a", fail(api.ErrSyntax, 1, 1))
			checkExprFail(t, "("+op+" a)", fail(api.ErrSyntax, 1, 2))
		}
		if level(op) > 1 {
			checkExprFail(t, "a "+op+" not b", fail(api.ErrSyntax, 1, 4+len(op)))
		}
	}
}

// 11.2: each two operators in a row: the one that holds together more strongly is done first; those of one line are joined from the left, and comparisons not at all.
func TestOperatorsInARow(t *testing.T) {
	for _, x := range operators {
		for _, y := range operators {
			s := "a " + x + " b " + y + " c"
			switch {
			case level(x) == 2 && level(y) == 2:
				checkExprFail(t, s, fail(api.ErrSyntax, 1, 6+len(x)))
				checkExpr(t, "(a "+x+" b) "+y+" c")
				checkExpr(t, "a "+x+" (b "+y+" c)")
			case level(x) >= level(y):
				checkAlike(t, s, "(a "+x+" b) "+y+" c")
			default:
				checkAlike(t, s, "a "+x+" (b "+y+" c)")
			}
			for _, z := range operators {
				checkExpr(t, s+" "+z+" d")
				checkExpr(t, "a "+x+" (b "+y+" c) "+z+" d")
				checkExpr(t, "a "+x+" (b "+y+" (c "+z+" d))")
				checkExpr(t, "-a "+x+" - b "+y+" -1 "+z+" -(d)")
			}
		}
		if level(x) > 1 {
			checkAlike(t, "not a "+x+" b", "not (a "+x+" b)")
		} else {
			checkAlike(t, "not a "+x+" b", "(not a) "+x+" b")
			checkAlike(t, "a "+x+" not b", "a "+x+" (not b)")
		}
		checkAlike(t, "-a "+x+" b", "(-a) "+x+" b")
		checkAlike(t, "a "+x+" -b", "a "+x+" (-b)")
	}
	for s, want := range map[string]string{
		"1 + 2 * 3": "1 2 3 mul add", "1 * 2 + 3": "1 2 mul 3 add", "1 - 2 - 3": "1 2 sub 3 sub", "1 - (2 - 3)": "1 2 3 sub sub", "1 or 2 and 3": "1 2 3 and or", "1 and 2 or 3": "1 2 and 3 or", "(1 or 2) and 3": "1 2 or 3 and", "not 1 == 2": "1 2 eq not", "not 1 and 2": "1 not 2 and", "a / b * c % d": "a b div c mul d mod",
		"a or b or c": "a b or c or", "a and b and c": "a b and c and", "a - b + c": "a b sub c add", "1 >= 2 + 3": "2 3 add 1 le", "(1 > 2) == 3": "2 1 lt 3 eq", "a == (b == c)": "a b c eq eq", "a < b or b < a and not a == b": "a b lt b a lt a b eq not and or", "not not a or b": "a not not b or", "a + b < c * d": "a b add c d mul lt",
	} {
		checkShape(t, s, want)
	}
}

// 11.2: a > b is b < a, and a >= b is b <= a: the nodes of b stand ahead, whatever expressions these are.
func TestTurned(t *testing.T) {
	for s, want := range map[string]string{
		"a > b": "b a lt", "a >= b": "b a le", "a + 2 > -b": "b neg a 2 add lt", "a + 2 >= -b": "b neg a 2 add le", "a * b + c > d - e * f": "d e f mul sub a b mul c add lt", "(a > b) > (c > d)": "d c lt b a lt lt", "(a > b) >= c": "c b a lt le", "a > (b >= c)": "c b le a lt", "not a > b": "b a lt not",
		"a > b and c > d": "b a lt d c lt and", "a or b > c": "a c b lt or", "(a > b) + 1": "b a lt 1 add", "1 - (a >= b)": "1 b a le sub", "-(a > b)": "b a lt neg", "((a > b) > c) > d": "d c b a lt lt lt", "a > (b > (c > d))": "d c lt b lt a lt", "(a < b) > (c <= d)": "c d le a b lt lt", "-1 > 0": "0 -1 lt",
	} {
		checkShape(t, s, want)
	}
	l, f := parse.Expr("a + 2 > -b")
	want := []api.Expr{
		{Op: 17, Name: "b", Line: 1, Col: 10}, {Op: 5, A: 0, Line: 1, Col: 9},
		{Op: 17, Name: "a", Line: 1, Col: 1}, {Op: 1, Value: api.Value{Kind: 1, Int: 2}, Line: 1, Col: 5}, {Op: 8, A: 2, B: 3, Line: 1, Col: 3},
		{Op: 15, A: 1, B: 4, Line: 1, Col: 7},
	}
	if f != (api.Fail{}) || !slices.Equal(l, want) {
		t.Fatalf("%+v, %v", l, f)
	}
	l, f = parse.Expr("x or (a > (b - 1 >= c))")
	want = []api.Expr{
		{Op: 17, Name: "x", Line: 1, Col: 1},
		{Op: 17, Name: "c", Line: 1, Col: 21}, {Op: 17, Name: "b", Line: 1, Col: 12}, {Op: 1, Value: api.Value{Kind: 1, Int: 1}, Line: 1, Col: 16}, {Op: 9, A: 2, B: 3, Line: 1, Col: 14}, {Op: 16, A: 1, B: 4, Line: 1, Col: 18},
		{Op: 17, Name: "a", Line: 1, Col: 7}, {Op: 15, A: 5, B: 6, Line: 1, Col: 9},
		{Op: 7, A: 0, B: 7, Line: 1, Col: 3},
	}
	if f != (api.Fail{}) || !slices.Equal(l, want) {
		t.Fatalf("%+v, %v", l, f)
	}
	// What is wrong is met as it is read, not as it is laid.
	checkExprFail(t, overNumber+" > "+overOver, fail(api.ErrRange, 1, 1))
	checkExprFail(t, "(a b) > )", fail(api.ErrSyntax, 1, 4))
}

// 11.1, 11.2: places, over several lines, and behind blanks and remarks.
func TestPlaces(t *testing.T) {
	l, f := parse.Expr("# first\n\tnot # a\n (a\n\t\t+ -\n5 ) \r\n >= - # b # c\n\n  (\"x\" -true)")
	want := []api.Expr{
		{Op: 1, Value: api.Value{Kind: 2, Str: "x"}, Line: 8, Col: 4}, {Op: 1, Value: api.Value{Kind: 3, Bool: true}, Line: 8, Col: 9}, {Op: 9, A: 0, B: 1, Line: 8, Col: 8}, {Op: 5, A: 2, Line: 6, Col: 5},
		{Op: 17, Name: "a", Line: 3, Col: 3}, {Op: 1, Value: api.Value{Kind: 1, Int: -5}, Line: 4, Col: 5}, {Op: 8, A: 4, B: 5, Line: 4, Col: 3},
		{Op: 16, A: 3, B: 6, Line: 6, Col: 2}, {Op: 4, A: 7, Line: 2, Col: 2},
	}
	if f != (api.Fail{}) || !slices.Equal(l, want) {
		t.Fatalf("%+v, %v", l, f)
	}
	// With each token in a line of its own, a place's line is a token's number.
	texts := textsOf(t, wholeText)
	for _, between := range []string{" ", "\n", "\t\n", " # a\n", "\r\n  ", "\n# if\n#\n\t"} {
		s := strings.Join(texts, between)
		if _, f := parse.Parse(s); f != (api.Fail{}) {
			t.Fatal(f)
		}
		check(t, s)
		check(t, between+s+between)
	}
	s, f := parse.Parse(strings.Join(texts, "\n"))
	if f != (api.Fail{}) {
		t.Fatal(f)
	}
	for _, x := range []struct {
		line int
		text string
	}{
		{s.Name.Line, "p"}, {s.Decls[1].Name.Line, "b"}, {s.Quants[1].Name.Line, "y"}, {s.Frees[0].Name.Line, "f"}, {s.States[2].Name.Line, "u"}, {s.Start.Line, "s"}, {s.Also[1].Line, "a"}, {s.Also[1].Args[0].Line, "_"}, {s.Also[1].Args[1].Line, `"k"`},
		{s.Trans[0].From.Line, "s"}, {s.Trans[0].On.Line, "a"}, {s.Trans[0].On.Args[0].Line, "x"}, {s.Trans[0].Nodes[7].Line, "and"}, {s.Trans[0].Nodes[6].Line, "not"}, {s.Trans[0].Sets[1].Name.Line, "g"}, {s.Trans[0].To.Line, "t"}, {s.Trans[1].On.Args[0].Line, "-"}, {s.Trans[2].Nodes[9].Line, ">="},
	} {
		if x.line < 1 || texts[x.line-1] != x.text {
			t.Errorf("place of %s: line %d", x.text, x.line)
		}
	}
}

// leftDeep is an expression of that depth, joined from the left; rightDeep one that is deeper on the right.
func leftDeep(depth int, op string) string {
	return strings.Repeat("a "+op+" ", depth-1) + "a"
}

func rightDeep(depth int, op string) string {
	return strings.Repeat("a "+op+" (", depth-1) + "a" + strings.Repeat(")", depth-1)
}

// checkDeep holds an expression that is 64 deep.
func checkDeep(t *testing.T, s string) {
	t.Helper()
	l, f := parse.Expr(s)
	if f != (api.Fail{}) || tree.Depth(l, len(l)-1) != 64 {
		t.Fatalf("Expr(%q): depth %d, %v", s, tree.Depth(l, len(l)-1), f)
	}
	checkExpr(t, s)
	check(t, "qea p start s s on a() if "+s+" do f = "+s+", g = "+s+" to s")
}

// 11.1, 11.2: expressions 64 deep may be, those of 65 not: what is wrong is told at the operator that is too much.
func TestDepth(t *testing.T) {
	t.Parallel()
	for _, op := range operators {
		if level(op) != 2 {
			checkDeep(t, leftDeep(64, op))
			checkExprFail(t, leftDeep(65, op), fail(api.ErrDepth, 1, 64*(len(op)+3)-len(op)))
			checkExprFail(t, leftDeep(100, op), fail(api.ErrDepth, 1, 64*(len(op)+3)-len(op)))
		}
		checkDeep(t, rightDeep(64, op))
		checkExprFail(t, rightDeep(65, op), fail(api.ErrDepth, 1, 3))
		checkExprFail(t, rightDeep(70, op), fail(api.ErrDepth, 1, 3+5*(len(op)+4)))
		checkDeep(t, "("+leftDeep(63, "+")+") "+op+" a")
	}
	for _, sign := range []string{"not ", "-", "- ", "-(", "not(", "not ( "} {
		closed := strings.Repeat(")", 128*strings.Count(sign, "("))
		deep := func(n int) string { return strings.Repeat(sign, n) + "a" + closed[:n*strings.Count(sign, "(")] }
		checkDeep(t, deep(63))
		checkExprFail(t, deep(64), fail(api.ErrDepth, 1, 1))
		if !strings.Contains(sign, "(") {
			checkExprFail(t, deep(65), fail(api.ErrDepth, 1, 1+len(sign)))
			checkExprFail(t, deep(128), fail(api.ErrDepth, 1, 1+64*len(sign)))
		}
		checkExprFail(t, "a + b and "+deep(64), fail(api.ErrDepth, 1, 11)) // a - or a ( may stand behind and, as not may
	}
	// A bracket is no deeper than what stands in it.
	checkDeep(t, strings.Repeat("(", 128)+leftDeep(64, "*")+strings.Repeat(")", 128))
	checkDeep(t, "("+leftDeep(64, "or")+")")
	checkExprFail(t, "("+leftDeep(65, "or")+")", fail(api.ErrDepth, 1, 64*5-1))
	checkShape(t, strings.Repeat("(", 128)+"a"+strings.Repeat(")", 128), "a")
	// What is joined is as deep as the deeper one, and one more, on whatever side that stands.
	for _, op := range []string{"or", "<", ">", "-", "*"} {
		d63, d64 := leftDeep(63, "+"), leftDeep(64, "+")
		checkDeep(t, "("+d63+") "+op+" ("+d63+")")
		checkDeep(t, "("+d63+") "+op+" a")
		checkDeep(t, "a "+op+" ("+d63+")")
		checkExprFail(t, "("+d64+") "+op+" a", fail(api.ErrDepth, 1, len(d64)+4))
		checkExprFail(t, "a "+op+" ("+d64+")", fail(api.ErrDepth, 1, 3))
		checkExprFail(t, "("+d64+") "+op+"\n("+d64+")", fail(api.ErrDepth, 1, len(d64)+4))
	}
	checkExprFail(t, "not ("+leftDeep(64, "+")+")", fail(api.ErrDepth, 1, 1))
	checkExprFail(t, "-("+leftDeep(64, "+")+")", fail(api.ErrDepth, 1, 1))
	checkExprFail(t, "not "+leftDeep(64, "+"), fail(api.ErrDepth, 1, 1))
	checkDeep(t, "not "+leftDeep(63, "+"))
	checkDeep(t, "-a "+strings.Repeat("- a ", 62))
	checkExprFail(t, "-a "+strings.Repeat("- a ", 63), fail(api.ErrDepth, 1, 4+4*62))
	// A value's - is no operator.
	checkDeep(t, "-1 "+strings.Repeat("- -1 ", 63))
	checkDeep(t, strings.Repeat("-", 64)+"1")
	checkExprFail(t, strings.Repeat("-", 65)+"1", fail(api.ErrDepth, 1, 1))
}

// 11.1, 11.2: of several expressions that are too deep the first one that ends is told, and of those that end at one token the inner one.
func TestSeveralTooDeep(t *testing.T) {
	deep := leftDeep(65, "+") // 257 bytes, wrong at 255
	for s, want := range map[string]api.Fail{
		"(" + deep + ") *\n(" + deep + ")":            fail(api.ErrDepth, 1, 256),
		"a + (\n" + deep + ")":                        fail(api.ErrDepth, 2, 255),
		"not (\n" + deep + ")":                        fail(api.ErrDepth, 2, 255),
		deep + " and\n" + deep:                        fail(api.ErrDepth, 1, 255),
		leftDeep(64, "+") + " or\n" + deep:            fail(api.ErrDepth, 2, 255),
		"not\n" + deep:                                fail(api.ErrDepth, 2, 255),
		"a == (b and\n" + deep + ")":                  fail(api.ErrDepth, 2, 255),
		leftDeep(64, "*") + " +\n" + deep:             fail(api.ErrDepth, 1, 255),
		leftDeep(64, "*") + " >\n" + deep:             fail(api.ErrDepth, 2, 255),
		leftDeep(63, "+") + " >\n" + deep:             fail(api.ErrDepth, 2, 255),
		deep + " >\n" + deep:                          fail(api.ErrDepth, 1, 255),
		leftDeep(64, "+") + " >\na or\n" + deep:       fail(api.ErrDepth, 1, 255),
		"a\n or " + leftDeep(63, "+") + " and\n b":    fail(api.ErrDepth, 2, 2),
		"a or " + leftDeep(63, "+") + "\n and b or c": fail(api.ErrDepth, 1, 3),
	} {
		checkExprFail(t, s, want)
	}
	s := "qea p start s\ns on a() if\n" + deep + "\ndo f =\n" + deep + "\nto s"
	checkFail(t, s, fail(api.ErrDepth, 3, 255))
	s = "qea p start s\ns on a() if\n1\ndo f =\n" + deep + ", g =\n" + deep + "\nto s"
	checkFail(t, s, fail(api.ErrDepth, 5, 255))
	s = "qea p start s\ns on a() do f =\n1, g =\n" + deep + "\nto s t on a() if\n" + deep + " to s"
	checkFail(t, s, fail(api.ErrDepth, 4, 255))
}

// 11.1, 11.2: that an expression is too deep is met when its last token was read: behind what is wrong with a token of it, ahead of what is wrong behind.
func TestDepthAndElse(t *testing.T) {
	deep := leftDeep(65, "+") // 257 bytes, wrong at 255
	most := leftDeep(64, "+")
	for s, want := range map[string]api.Fail{
		deep + " )":                fail(api.ErrDepth, 1, 255),
		deep + " b":                fail(api.ErrDepth, 1, 255),
		deep + " 1":                fail(api.ErrDepth, 1, 255),
		deep + " +":                fail(api.ErrDepth, 1, 255),
		deep + " + )":              fail(api.ErrDepth, 1, 255),
		deep + " not":              fail(api.ErrDepth, 1, 255),
		deep + " < 1 < 2":          fail(api.ErrDepth, 1, 255),
		deep + " or " + overNumber: fail(api.ErrDepth, 1, 255),
		deep + " and " + strings.Repeat("(", 129): fail(api.ErrDepth, 1, 255),
		"(" + deep:                          fail(api.ErrDepth, 1, 256),
		"(" + deep + " b":                   fail(api.ErrDepth, 1, 256),
		"(" + most + ") + (":                fail(api.ErrSyntax, 1, 259),
		"(" + most + ") + (b":               fail(api.ErrSyntax, 1, 260),
		"(" + most + ") + (b c":             fail(api.ErrSyntax, 1, 262),
		"(" + most + ") + (b)":              fail(api.ErrDepth, 1, 257),
		"(" + most + ") + (b) c":            fail(api.ErrDepth, 1, 257),
		most + " + " + overNumber:           fail(api.ErrRange, 1, 257),
		most + " + -" + overOver:            fail(api.ErrRange, 1, 258),
		most + " +":                         fail(api.ErrSyntax, 1, 255),
		most + " + )":                       fail(api.ErrSyntax, 1, 257),
		most + " + not":                     fail(api.ErrSyntax, 1, 257),
		deep + " *":                         fail(api.ErrSyntax, 1, 259),
		deep + " * )":                       fail(api.ErrSyntax, 1, 261),
		deep + " * " + overNumber:           fail(api.ErrRange, 1, 261),
		deep + " * b":                       fail(api.ErrDepth, 1, 255),
		deep + " * b /":                     fail(api.ErrSyntax, 1, 263),
		most + " < b < c":                   fail(api.ErrDepth, 1, 255),
		most + " < b + < c":                 fail(api.ErrSyntax, 1, 261),
		"not " + most + " b":                fail(api.ErrDepth, 1, 1),
		"not " + most + " +":                fail(api.ErrSyntax, 1, 259),
		"not " + most + " == )":             fail(api.ErrSyntax, 1, 262),
		"not (" + most:                      fail(api.ErrSyntax, 1, 258),
		"not (" + most + " or":              fail(api.ErrSyntax, 1, 260),
		"a b + " + deep:                     fail(api.ErrSyntax, 1, 3),
		") " + deep:                         fail(api.ErrSyntax, 1, 1),
		overNumber + " + " + deep:           fail(api.ErrRange, 1, 1),
		"a < b < " + deep:                   fail(api.ErrSyntax, 1, 7),
		strings.Repeat("not ", 64) + "a b":  fail(api.ErrDepth, 1, 1),
		strings.Repeat("not ", 64) + "a ==": fail(api.ErrSyntax, 1, 259),
		strings.Repeat("-", 64) + "a - )":   fail(api.ErrDepth, 1, 1),
		strings.Repeat("-", 64) + ")":       fail(api.ErrSyntax, 1, 65),
		strings.Repeat("-", 64):             fail(api.ErrSyntax, 1, 64),
	} {
		if got, f := parse.Expr(s); f != want || got != nil {
			t.Errorf("Expr(%.300q) = %s, %v; want %v", s, brief(got), f, want)
		}
		checkExpr(t, s)
	}
	for s, want := range map[string]api.Fail{
		"if\n" + deep:                    fail(api.ErrDepth, 2, 255),
		"if\n" + most:                    fail(api.ErrSyntax, 2, 253),
		"if\n" + deep + "\nif":           fail(api.ErrDepth, 2, 255),
		"if\n" + deep + "\nto":           fail(api.ErrDepth, 2, 255),
		"if\n" + deep + "\n* to":         fail(api.ErrSyntax, 3, 3),
		"do\nf = " + deep + ", 1":        fail(api.ErrDepth, 2, 259),
		"do\nf = " + most + ", 1":        fail(api.ErrSyntax, 2, 260),
		"if if\n" + deep:                 fail(api.ErrSyntax, 1, 27),
		"if 1 do f =\n" + deep + "\n= 1": fail(api.ErrDepth, 2, 255),
	} {
		checkFail(t, "qea p start s s on a() "+s, want)
	}
}

// opened are that many of (, not and -, as they come in turn.
func opened(n int, marks ...string) string {
	s := ""
	for i := range n {
		s += marks[i%len(marks)] + " "
	}
	return s
}

// 11.1, 11.2: 128 of (, not and - may be open at once, at the one more it is told, whatever stands behind; what can't stand there can't be open.
func TestOpen(t *testing.T) {
	t.Parallel()
	for _, marks := range [][]string{{"("}, {"not"}, {"-"}, {"(", "not"}, {"(", "-"}, {"not", "-", "("}, {"not", "not", "("}, {"(", "(", "-"}, {"-", "-", "-", "(", "not"}} {
		most := opened(128, marks...)
		at := len(most) + 1
		last := marks[127%len(marks)]
		for _, one := range []string{"(", "not", "-"} {
			want := fail(api.ErrDepth, 1, at)
			if one == "not" && last == "-" {
				want.Err = api.ErrSyntax
			}
			for _, behind := range []string{"", " a", " )", " (", " not", " -", " or", " a b c", " * 1"} {
				checkExprFail(t, most+one+behind, want)
			}
			checkExpr(t, most+"a "+one)
			checkExpr(t, opened(127, marks...)+one+" a")
		}
		checkExprFail(t, most+")", fail(api.ErrSyntax, 1, at))
		checkExprFail(t, most+"or", fail(api.ErrSyntax, 1, at))
		checkExprFail(t, most[:at-2], fail(api.ErrSyntax, 1, at-1-len(last)))
		checkExprFail(t, most+overOver, fail(api.ErrRange, 1, at))
		checkExprFail(t, "a b "+most+"(", fail(api.ErrSyntax, 1, 3))
		checkExprFail(t, "a or\n"+opened(129, marks...)+"a", fail(api.ErrDepth, 2, at))
		checkExprFail(t, opened(300, marks...)+"a", fail(api.ErrDepth, 1, at))
		// A value's - opens nothing.
		checkExpr(t, most+"-1")
		checkExpr(t, most+"- 1 - a")
		checkExprFail(t, most+"-"+overOver, fail(api.ErrRange, 1, at+1))
	}
}

// 11.1, 11.2: what is closed, or whole, is open no more; and each expression is counted anew.
func TestClosed(t *testing.T) {
	some := func(s string, n int) string { return strings.Repeat(s, n) }
	checkShape(t, some("(", 128)+"a"+some(")", 128), "a")
	checkShape(t, some("(", 128)+"-1"+some(")", 128), "-1")
	checkShape(t, some("(", 128)+"a"+some(")", 128)+" + "+some("(", 128)+"b"+some(")", 128), "a b add")
	checkShape(t, some("(", 126)+"(a) + (b) * (c) - -(d)"+some(")", 126), "a b c mul add d neg sub")
	checkShape(t, some("(", 127)+"not a and not b or -c"+some(")", 127), "a not b not and c neg or")
	checkShape(t, some("(", 127)+"-a * -b - -c < -d"+some(")", 127), "a neg b neg mul c neg sub d neg lt")
	checkShape(t, "("+some("(not -a) and ", 40)+"b)", "a neg not "+some("a neg not and ", 39)+"b and")
	checkExprFail(t, some("(", 127)+"not -a"+some(")", 127), fail(api.ErrDepth, 1, 132))
	checkExprFail(t, some("(", 127)+"not a and not (b)", fail(api.ErrDepth, 1, 142))
	checkExprFail(t, some("(", 127)+"-a * (b) - -(c)", fail(api.ErrDepth, 1, 140))
	checkExprFail(t, some("(", 128)+"a) + (b) + ((c))", fail(api.ErrDepth, 1, 141))
	checkExprFail(t, some("(", 128)+"a (", fail(api.ErrSyntax, 1, 131))
	checkExprFail(t, some("(", 128)+"a not", fail(api.ErrSyntax, 1, 131))
	checkExprFail(t, some("(a + ", 128)+"not", fail(api.ErrSyntax, 1, 641))
	checkExprFail(t, some("(a + ", 128)+"(", fail(api.ErrDepth, 1, 641))
	checkExprFail(t, some("(a or ", 128)+"not", fail(api.ErrDepth, 1, 769))
	checkExprFail(t, some("(", 100)+overNumber+some("(", 29), fail(api.ErrRange, 1, 101))
	one := some("(", 128) + "a" + some(")", 128)
	s := "qea p start s s on a() if " + one + " do f = " + one + ", g = " + one + " to s s on a() if " + one + " to s"
	if x, f := parse.Parse(s); f != (api.Fail{}) || shape(x.Trans[0].Nodes) != "a a a" {
		t.Fatal(brief(x), f)
	}
	check(t, s)
	checkFail(t, "qea p start s s on a() if "+one+" do f =\n"+some("(", 129), fail(api.ErrDepth, 2, 129))
	checkFail(t, "qea p start s s on a(x) if "+some("(", 128)+"(", fail(api.ErrDepth, 1, 28+128))
}

// 11.2: a token that stands behind an expression can't stand there, also one that might in a transition.
func TestBehindAnExpression(t *testing.T) {
	for _, s := range []string{"a", "1", "-1", `"x"`, "true", "(a)", "a + b", "not a", "a < b", "a > b", "a or b", "- -5", "((a) * 2)"} {
		checkExpr(t, s)
		for _, x := range slices.Concat(words, signs, []string{"k", "_", "0", `"k"`, overNumber, longName}) {
			if !slices.Contains(operators, x) {
				checkExprFail(t, s+" "+x, fail(api.ErrSyntax, 1, len(s)+2))
				checkExprFail(t, s+"\n"+x+" a", fail(api.ErrSyntax, 2, 1))
			}
			checkExpr(t, s+" "+x)
			checkExpr(t, s+" "+x+" a")
		}
	}
	checkExprFail(t, "1 2", fail(api.ErrSyntax, 1, 3))
	checkExprFail(t, "1 to s", fail(api.ErrSyntax, 1, 3))
	checkExprFail(t, "qea p start s", fail(api.ErrSyntax, 1, 1))
	checkFail(t, "a + b", fail(api.ErrSyntax, 1, 1))
}

// 11.1: a transition's nodes are those of its guard and its settings, one behind the other, with their roots.
func TestGuardsAndSettings(t *testing.T) {
	for _, x := range []struct {
		s, nodes string
		guard    int
		sets     []int
	}{
		{"", "", -1, nil},
		{"if a", "a", 0, nil},
		{"if a < 3 and not b", "a 3 lt b not and", 5, nil},
		{"do f = 1", "1", -1, []int{0}},
		{"do f = f + 1", "f 1 add", -1, []int{2}},
		{"if a do f = 1", "a 1", 0, []int{1}},
		{"if a > b do f = -a, g = b >= a, h = -1", "b a lt a neg a b le -1", 2, []int{4, 7, 8}},
		{"do f = f, f = f, f = f * f", "f f f f mul", -1, []int{0, 1, 4}},
		{"if not not a do f = (a + b) * c", "a not not a b add c mul", 2, []int{7}},
	} {
		s := "qea p start s s on a(x) " + x.s + " to t"
		got, f := parse.Parse(s + "\n" + s[14:] + " " + s[14:])
		if f != (api.Fail{}) || len(got.Trans) != 3 {
			t.Fatalf("Parse(%q) = %s, %v", s, brief(got), f)
		}
		for _, trans := range got.Trans {
			var sets []int
			for _, set := range trans.Sets {
				sets = append(sets, set.Expr)
			}
			if shape(trans.Nodes) != x.nodes || trans.Guard != x.guard || !slices.Equal(sets, x.sets) {
				t.Errorf("Parse(%q): %s", s, brief(trans))
			}
			// Expressions stand one behind the other: each one's first node is behind the root ahead of it.
			begin := 0
			for _, root := range append([]int{trans.Guard}, sets...) {
				if root >= 0 {
					if root+1-tree.Size(trans.Nodes, root) != begin {
						t.Errorf("Parse(%q): root %d behind %d", s, root, begin)
					}
					begin = root + 1
				}
			}
			if begin != len(trans.Nodes) {
				t.Errorf("Parse(%q): %d nodes, %d of expressions", s, len(trans.Nodes), begin)
			}
		}
		check(t, s)
	}
	got, f := parse.Parse("qea p start s s on a() if g < 1 do f = g, h = f - 1 to t")
	want := []api.Expr{
		{Op: 17, Name: "g", Line: 1, Col: 27}, {Op: 1, Value: api.Value{Kind: 1, Int: 1}, Line: 1, Col: 31}, {Op: 15, A: 0, B: 1, Line: 1, Col: 29},
		{Op: 17, Name: "g", Line: 1, Col: 40},
		{Op: 17, Name: "f", Line: 1, Col: 47}, {Op: 1, Value: api.Value{Kind: 1, Int: 1}, Line: 1, Col: 51}, {Op: 9, A: 4, B: 5, Line: 1, Col: 49},
	}
	if f != (api.Fail{}) || !slices.Equal(got.Trans[0].Nodes, want) || got.Trans[0].Sets[1] != (api.TreeSet{Name: api.Ident{Text: "h", Line: 1, Col: 43}, Expr: 6}) {
		t.Fatalf("%+v, %v", got, f)
	}
}

// R3, R4: what is answered is memory of its own, and the same each time.
func TestMemory(t *testing.T) {
	first, _ := parse.Parse(wholeText)
	second, _ := parse.Parse(wholeText)
	third, _ := parse.Parse(wholeText)
	if !reflect.DeepEqual(first, second) {
		t.Fatal("two answers of one text differ")
	}
	// No list shares memory with another one: what is put behind one, or laid into it, is in no other one.
	for i := range first.Trans {
		x := &first.Trans[i]
		x.Nodes = append(x.Nodes, api.Expr{Op: 99})
		x.Sets = append(x.Sets, api.TreeSet{Expr: 99})
		x.On.Args = append(x.On.Args, api.TreeArg{Kind: 99})
	}
	for i := range first.Decls {
		first.Decls[i].Types = append(first.Decls[i].Types, 99)
	}
	for i := range first.Also {
		first.Also[i].Args = append(first.Also[i].Args, api.TreeArg{Kind: 99})
	}
	for i := range first.Trans {
		x := &first.Trans[i]
		last := len(x.Nodes) - 1
		if !slices.Equal(x.Nodes[:last], third.Trans[i].Nodes) || !slices.Equal(x.Sets[:len(x.Sets)-1], third.Trans[i].Sets) || !slices.Equal(x.On.Args[:len(x.On.Args)-1], third.Trans[i].On.Args) {
			t.Fatalf("transition %d: %s", i, brief(x))
		}
		clear(x.Nodes)
		clear(x.Sets)
		clear(x.On.Args)
	}
	clear(first.Trans)
	clear(first.States)
	if !reflect.DeepEqual(second, third) {
		t.Fatal("an answer changed with another one")
	}
	l, _ := parse.Expr("a > b + 1")
	m, _ := parse.Expr("a > b + 1")
	was := slices.Clone(m)
	clear(l)
	if !slices.Equal(m, was) {
		t.Fatalf("%+v behind changes of another answer; it was %+v", m, was)
	}
}

// 11.1, 11.2, 11.3: all rows of up to five tokens of those that have a part in an expression, and of up to four behind the beginning of a transition.
func TestShortRows(t *testing.T) {
	t.Parallel()
	rows := []string{""}
	for range 5 {
		var longer []string
		for _, s := range rows {
			for _, x := range []string{"a", "1", "(", ")", "not", "-", ">", "and", "*"} {
				longer = append(longer, s+" "+x)
			}
		}
		rows = longer
		for _, s := range rows {
			checkExpr(t, s)
		}
	}
	rows = []string{""}
	for range 4 {
		var longer []string
		for _, s := range rows {
			for _, x := range []string{"a", "_", "1", "(", ")", "-", "=", ",", "if", "do", "to", "on", "also"} {
				longer = append(longer, s+" "+x)
			}
		}
		rows = longer
		for i, s := range rows {
			if i%3 == 0 || len(rows) < 3000 {
				check(t, "qea p start s"+s)
				check(t, "qea p start s s on a ( )"+s)
			}
		}
	}
}

// 11.1, 11.2, 11.3: texts made by chance of the form, as they are, and with tokens left out, put in, and put in the place of others.
func TestManyTexts(t *testing.T) {
	t.Parallel()
	chance := rand.New(rand.NewSource(11))
	others := slices.Concat(words, signs, operators, []string{"k", "_", "7", "(", "(", "-", "-", "not", overNumber, `"k"`, "$"})
	for range 2000 {
		for _, start := range []string{"spec", "EXPR"} {
			texts := someTexts(chance, start, 40)
			for change := range 3 {
				s := strings.Join(texts, " ")
				if start == "spec" {
					check(t, s)
				} else {
					checkExpr(t, s)
				}
				if _, f := parse.Parse(s); change == 0 && start == "spec" && f.Err == api.ErrSyntax {
					t.Fatalf("Parse(%q): %v", s, f)
				}
				if len(texts) == 0 {
					break
				}
				at := chance.Intn(len(texts))
				other := others[chance.Intn(len(others))]
				switch chance.Intn(3) {
				case 0:
					texts = slices.Delete(texts, at, at+1)
				case 1:
					texts = slices.Insert(texts, at, other)
				case 2:
					texts[at] = other
				}
			}
		}
	}
}

func FuzzParse(f *testing.F) {
	for _, s := range []string{"", "qea p start s", wholeText, "qea p free f = -" + overNumber + " start s", "qea p start s s on a() if " + leftDeep(65, "+") + " to s", "qea p start s s on a() if " + strings.Repeat("not ", 129)} {
		f.Add(s)
	}
	f.Fuzz(func(t *testing.T, s string) {
		if len(s) < 3000 {
			check(t, s)
		}
	})
}

func FuzzExpr(f *testing.F) {
	for _, s := range []string{"", "a + 2 > -b", "not a and b or c", "- -" + overNumber, "(a) * -(b) % 3 == \"x\"", leftDeep(65, "*"), rightDeep(65, "<"), strings.Repeat("(", 129), strings.Repeat("-", 129) + "1"} {
		f.Add(s)
	}
	f.Fuzz(func(t *testing.T, s string) {
		if len(s) < 3000 {
			checkExpr(t, s)
		}
	})
}
