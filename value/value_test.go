package value_test

import (
	"math"
	"math/big"
	"regexp"
	"slices"
	"strings"
	"testing"

	"proctor/api"
	"proctor/num"
	"proctor/quote"
	"proctor/value"
)

// rising are values that may be, each ahead of all that stand behind it.
func rising() []api.Value {
	long := strings.Repeat("k", api.MaxStr)
	return []api.Value{
		value.Int(math.MinInt64), value.Int(math.MinInt64 + 1), value.Int(-1 << 32), value.Int(-10), value.Int(-9), value.Int(-1),
		value.Int(0), value.Int(1), value.Int(9), value.Int(10), value.Int(1 << 32), value.Int(math.MaxInt64 - 1), value.Int(math.MaxInt64),
		value.Str(""), value.Str("\x00"), value.Str("\x00\x00"), value.Str("\n"), value.Str("\""), value.Str("10"), value.Str("9"),
		value.Str("B"), value.Str("\\"), value.Str("a"), value.Str("a\x00"), value.Str("aa"), value.Str("ab"), value.Str("b"), value.Str("false"),
		value.Str(long[1:]), value.Str(long), value.Str("true"), value.Str("\x7f"), value.Str("\x80"), value.Str("\u00e9"), value.Str("\xff"),
		value.Bool(false), value.Bool(true),
	}
}

// wrong are values that may not be.
func wrong() []api.Value {
	return []api.Value{
		{}, {Int: 1}, {Str: "a"}, {Bool: true},
		{Kind: -1}, {Kind: 4}, {Kind: 4, Int: 1}, {Kind: 5, Str: "a"}, {Kind: 6, Bool: true}, {Kind: math.MaxInt}, {Kind: math.MinInt}, {Kind: 1<<32 + 1},
		{Kind: api.Int, Str: "a"}, {Kind: api.Int, Bool: true}, {Kind: api.Int, Int: 7, Str: "\x00"}, {Kind: api.Int, Int: 7, Bool: true},
		{Kind: api.Str, Int: 1}, {Kind: api.Str, Bool: true}, {Kind: api.Str, Str: "a", Int: -1}, {Kind: api.Str, Str: "a", Bool: true},
		{Kind: api.Bool, Int: 1}, {Kind: api.Bool, Str: "a"}, {Kind: api.Bool, Bool: true, Int: 1}, {Kind: api.Bool, Bool: true, Str: "true"},
		value.Str(strings.Repeat("a", api.MaxStr+1)), value.Str(strings.Repeat("\x00", 1<<20)),
	}
}

// 3.1: each field, also of texts that are too long, which are no errors of Str.
func TestMakers(t *testing.T) {
	long := strings.Repeat("a", api.MaxStr+1)
	for _, x := range []struct{ got, want api.Value }{
		{value.Int(0), api.Value{Kind: 1}},
		{value.Int(-5), api.Value{Kind: 1, Int: -5}},
		{value.Int(math.MinInt64), api.Value{Kind: 1, Int: math.MinInt64}},
		{value.Str(""), api.Value{Kind: 2}},
		{value.Str("a\xff"), api.Value{Kind: 2, Str: "a\xff"}},
		{value.Str(long), api.Value{Kind: 2, Str: long}},
		{value.Bool(false), api.Value{Kind: 3}},
		{value.Bool(true), api.Value{Kind: 3, Bool: true}},
	} {
		if x.got != x.want {
			t.Errorf("got %.60v; want %.60v", x.got, x.want)
		}
	}
}

// 3.1: which values may be.
func TestRight(t *testing.T) {
	for _, v := range rising() {
		if !value.Right(v) {
			t.Errorf("Right(%.60v) = false", v)
		}
	}
	for _, v := range wrong() {
		if value.Right(v) {
			t.Errorf("Right(%.60v) = true", v)
		}
	}
}

// 3.1: each kind with each way of filling the fields.
func TestRightByFields(t *testing.T) {
	for kind := -2; kind <= 6; kind++ {
		for fill := range 8 {
			v := api.Value{Kind: kind, Bool: fill&4 != 0}
			if fill&1 != 0 {
				v.Int = 3
			}
			if fill&2 != 0 {
				v.Str = "s"
			}
			own := map[int]int{api.Int: 1, api.Str: 2, api.Bool: 4}[kind]
			if want := own != 0 && fill&^own == 0; value.Right(v) != want {
				t.Errorf("Right(%v) = %v", v, !want)
			}
		}
	}
}

// 3.1, 3.4: the order, and that of two that are not the same just one is ahead.
func TestLess(t *testing.T) {
	l := rising()
	for i, a := range l {
		for j, b := range l {
			if got := value.Less(a, b); got != (i < j) {
				t.Errorf("Less(%.60v, %.60v) = %v", a, b, got)
			}
		}
	}
}

// Nothing is promised of values that may not be, but that the call ends.
func TestLessOfOthersEnds(t *testing.T) {
	l := append(rising(), wrong()...)
	for _, a := range l {
		for _, b := range l {
			value.Less(a, b)
		}
	}
}

func itself(v api.Value) api.Value { return v }

// 3.1: the first of those that are least, and none of nothing.
func TestLeast(t *testing.T) {
	for _, x := range []struct {
		l    []api.Value
		want int
	}{
		{nil, -1},
		{[]api.Value{}, -1},
		{[]api.Value{value.Bool(true)}, 0},
		{[]api.Value{value.Int(1), value.Int(2), value.Int(3)}, 0},
		{[]api.Value{value.Int(3), value.Int(2), value.Int(1)}, 2},
		{[]api.Value{value.Int(3), value.Int(1), value.Int(2), value.Int(1)}, 1},
		{[]api.Value{value.Int(2), value.Int(2), value.Int(2)}, 0},
		{[]api.Value{value.Bool(false), value.Str(""), value.Int(9), value.Int(-9)}, 3},
		{[]api.Value{value.Str("b"), value.Str("ab"), value.Str("a"), value.Str("a")}, 2},
		{[]api.Value{value.Bool(true), value.Bool(false), value.Bool(false)}, 1},
	} {
		given := slices.Clone(x.l)
		if got := value.Least(x.l, itself); got != x.want {
			t.Errorf("Least(%v) = %d; want %d", x.l, got, x.want)
		}
		if !slices.Equal(given, x.l) {
			t.Errorf("Least changed %v to %v", given, x.l)
		}
	}
}

// 3.1: things of other types, by what they are told to have as a value.
func TestLeastOfOtherThings(t *testing.T) {
	words := []string{"three", "to", "a", "b", "four"}
	if got := value.Least(words, func(s string) api.Value { return value.Int(int64(len(s))) }); got != 2 {
		t.Errorf("the shortest word is at %d", got)
	}
	slots := []api.Slot{{Var: 0, Value: value.Str("b")}, {Var: 1, Value: value.Str("a")}}
	if got := value.Least(slots, func(s api.Slot) api.Value { return s.Value }); got != 1 {
		t.Errorf("the least slot is at %d", got)
	}
	if got := value.Least([]int{1, 2}, nil); got != -1 {
		t.Errorf("without a function: %d", got)
	}
	if got := value.Least[int](nil, nil); got != -1 {
		t.Errorf("without things and function: %d", got)
	}
}

// 3.1: each list of up to five of a few values, told by the words of the promise.
func TestLeastOfShortLists(t *testing.T) {
	some := []api.Value{value.Bool(false), value.Int(1), value.Str("a"), value.Int(0)}
	lists := [][]api.Value{nil}
	for range 5 {
		var longer [][]api.Value
		for _, l := range lists {
			for _, v := range some {
				longer = append(longer, append(slices.Clone(l), v))
			}
		}
		for _, l := range longer {
			want := slices.IndexFunc(l, func(v api.Value) bool {
				return !slices.ContainsFunc(l, func(w api.Value) bool { return value.Less(w, v) })
			})
			if got := value.Least(l, itself); got != want {
				t.Fatalf("Least(%v) = %d; want %d", l, got, want)
			}
		}
		lists = longer
	}
}

// 3.2: texts written out, with the values that they are of.
func TestTextAndParse(t *testing.T) {
	for s, v := range map[string]api.Value{
		"0": value.Int(0), "5": value.Int(5), "-5": value.Int(-5), "10": value.Int(10),
		"9223372036854775807": value.Int(math.MaxInt64), "-9223372036854775808": value.Int(math.MinInt64),
		`"5"`: value.Str("5"), `""`: value.Str(""), `"true"`: value.Str("true"), `"a\nb"`: value.Str("a\nb"),
		`"\"\\\r\t\x00\xff ~"`: value.Str("\"\\\r\t\x00\xff ~"), `"\xc3\xa9"`: value.Str("\u00e9"),
		"true": value.Bool(true), "false": value.Bool(false),
	} {
		if got := value.Text(v); got != s {
			t.Errorf("Text(%v) = %s; want %s", v, got, s)
		}
		if got, e := value.Parse(s); got != v || e != api.OK {
			t.Errorf("Parse(%s) = %v, %d; want %v", s, got, e, v)
		}
	}
}

// 3.2, 3.4: each value that may be is parsed of its text, and no two have one; others have none.
func TestEachValueOfItsText(t *testing.T) {
	texts := map[string]api.Value{}
	for _, v := range rising() {
		s := value.Text(v)
		if other, ok := texts[s]; ok {
			t.Errorf("%.60v and %.60v are both %.60s", v, other, s)
		}
		texts[s] = v
		if got, e := value.Parse(s); got != v || e != api.OK {
			t.Errorf("Parse(%.60s) = %.60v, %d; want %.60v", s, got, e, v)
		}
	}
	for _, v := range wrong() {
		if s := value.Text(v); s != "" {
			t.Errorf("Text(%.60v) = %.60s; want none", v, s)
		}
	}
}

// 3.2: texts that are no value's.
func TestParseRefuses(t *testing.T) {
	for s, want := range map[string]api.Errno{
		"": api.ErrForm, " ": api.ErrForm, "\x00": api.ErrForm, "a": api.ErrForm, "int": api.ErrForm,
		"True": api.ErrForm, "TRUE": api.ErrForm, "t": api.ErrForm, "tru": api.ErrForm, "truee": api.ErrForm, " true": api.ErrForm,
		"true ": api.ErrForm, "true\x00": api.ErrForm, "False": api.ErrForm, "fals": api.ErrForm, "falsefalse": api.ErrForm,
		"-": api.ErrForm, "+1": api.ErrForm, "-0": api.ErrForm, "00": api.ErrForm, "01": api.ErrForm, "1 ": api.ErrForm, " 1": api.ErrForm,
		"1.0": api.ErrForm, "0x1": api.ErrForm, "1e3": api.ErrForm, "1_0": api.ErrForm, "0true": api.ErrForm, `1"`: api.ErrForm,
		"99999999999999999999a": api.ErrForm, "099999999999999999999": api.ErrForm,
		`"`: api.ErrForm, `"a`: api.ErrForm, `a"`: api.ErrForm, `"a" `: api.ErrForm, ` "a"`: api.ErrForm, `"a""b"`: api.ErrForm, `"""`: api.ErrForm,
		`"\q"`: api.ErrForm, `"\x41"`: api.ErrForm, `"\xFF"`: api.ErrForm, "\"\n\"": api.ErrForm, "\"\xff\"": api.ErrForm, "'a'": api.ErrForm, "`a`": api.ErrForm,
		"9223372036854775808": api.ErrRange, "-9223372036854775809": api.ErrRange,
		"99999999999999999999": api.ErrRange, "-99999999999999999999": api.ErrRange, "1" + strings.Repeat("0", 5000): api.ErrRange,
	} {
		if v, e := value.Parse(s); v != (api.Value{}) || e != want {
			t.Errorf("Parse(%.60q) = %v, %d; want none, %d", s, v, e, want)
		}
	}
}

// 3.2: how long a text may be hangs on its own bytes, not on those of its quoted form; a text of no form is never too long.
func TestParseLong(t *testing.T) {
	for _, part := range []string{"a", "\"", "\n", "\x00", "\xff"} {
		most := quote.Quote(strings.Repeat(part, api.MaxStr))
		if v, e := value.Parse(most); v != value.Str(strings.Repeat(part, api.MaxStr)) || e != api.OK {
			t.Errorf("%d times %q: error %d", api.MaxStr, part, e)
		}
		for _, n := range []int{api.MaxStr + 1, api.MaxStr + 2, 2 * api.MaxStr, 1 << 18} {
			form := quote.Quote(strings.Repeat(part, n))
			if v, e := value.Parse(form); v != (api.Value{}) || e != api.ErrLong {
				t.Errorf("%d times %q: %.60v, %d; want ErrLong", n, part, v, e)
			}
			for _, s := range []string{form[:len(form)-1], form + " ", form + `"`, form[1:], form[:len(form)-1] + `\q"`} {
				if v, e := value.Parse(s); v != (api.Value{}) || e != api.ErrForm {
					t.Errorf("%d times %q, of no form: %.60v, %d; want ErrForm", n, part, v, e)
				}
			}
		}
	}
}

// 3.2: all kinds and names that there are, and some that there are not.
func TestNameAndKind(t *testing.T) {
	names := map[int]string{1: "int", 2: "string", 3: "bool"}
	for kind := -300; kind <= 300; kind++ {
		if got := value.Name(kind); got != names[kind] {
			t.Errorf("Name(%d) = %q; want %q", kind, got, names[kind])
		}
	}
	for _, kind := range []int{math.MinInt, math.MaxInt, 1<<32 + 1} {
		if got := value.Name(kind); got != "" {
			t.Errorf("Name(%d) = %q", kind, got)
		}
	}
	for kind, name := range names {
		if got := value.Kind(name); got != kind {
			t.Errorf("Kind(%q) = %d; want %d", name, got, kind)
		}
	}
	for _, name := range []string{"", " ", "i", "in", "Int", "INT", "int ", " int", "ints", "int64", "str", "strin", "String", "string\x00", "boo", "bools", "Bool", "truth", "1"} {
		if got := value.Kind(name); got != 0 {
			t.Errorf("Kind(%q) = %d; want 0", name, got)
		}
	}
}

// fit is the chapter's list of operators: of an operator and a kind of values, of which kind the answer is.
var fit = map[[2]int]int{
	{api.OpNot, api.Bool}: api.Bool,
	{api.OpNeg, api.Int}:  api.Int,
	{api.OpEq, api.Int}:   api.Bool, {api.OpEq, api.Str}: api.Bool, {api.OpEq, api.Bool}: api.Bool,
	{api.OpNe, api.Int}: api.Bool, {api.OpNe, api.Str}: api.Bool, {api.OpNe, api.Bool}: api.Bool,
	{api.OpAnd, api.Bool}: api.Bool,
	{api.OpOr, api.Bool}:  api.Bool,
	{api.OpLt, api.Int}:   api.Bool, {api.OpLt, api.Str}: api.Bool,
	{api.OpLe, api.Int}: api.Bool, {api.OpLe, api.Str}: api.Bool,
	{api.OpAdd, api.Int}: api.Int, {api.OpAdd, api.Str}: api.Str,
	{api.OpSub, api.Int}: api.Int, {api.OpMul, api.Int}: api.Int, {api.OpDiv, api.Int}: api.Int, {api.OpMod, api.Int}: api.Int,
}

func operators() []int {
	return []int{
		api.OpNot, api.OpNeg, api.OpAnd, api.OpOr, api.OpAdd, api.OpSub, api.OpMul,
		api.OpDiv, api.OpMod, api.OpEq, api.OpNe, api.OpLt, api.OpLe,
	}
}

func ofOne(op int) bool { return op == api.OpNot || op == api.OpNeg }

// wantType is what Type must answer, by the chapter's list.
func wantType(op, a, b int) int {
	if a != b && !ofOne(op) {
		return 0
	}
	return fit[[2]int{op, a}]
}

// 3.3: each operator, and others, with kinds that there are and that there are not.
func TestType(t *testing.T) {
	kinds := []int{-1, 0, 1, 2, 3, 4, 5, math.MinInt, math.MaxInt, 1<<32 + 1}
	ops := []int{math.MinInt, math.MaxInt, 1<<32 + api.OpEq}
	for op := -20; op <= 60; op++ {
		ops = append(ops, op)
	}
	for _, op := range ops {
		for _, a := range kinds {
			for _, b := range kinds {
				if got, want := value.Type(op, a, b), wantType(op, a, b); got != want {
					t.Errorf("Type(%d, %d, %d) = %d; want %d", op, a, b, got, want)
				}
			}
		}
	}
}

// 3.3: answers written out.
func TestOpWrittenOut(t *testing.T) {
	yes, no, none := value.Bool(true), value.Bool(false), api.Value{}
	most, half := strings.Repeat("a", api.MaxStr), strings.Repeat("a", api.MaxStr/2)
	for _, x := range []struct {
		op   int
		a, b api.Value
		want api.Value
		e    api.Errno
	}{
		{api.OpNot, yes, none, no, api.OK}, {api.OpNot, no, value.Int(3), yes, api.OK}, {api.OpNot, value.Int(0), no, none, api.ErrType},
		{api.OpNeg, value.Int(5), none, value.Int(-5), api.OK}, {api.OpNeg, value.Int(5), yes, value.Int(-5), api.OK},
		{api.OpNeg, value.Int(math.MinInt64), value.Int(1), none, api.ErrOver}, {api.OpNeg, value.Str("5"), value.Int(1), none, api.ErrType},
		{api.OpAnd, yes, yes, yes, api.OK}, {api.OpAnd, yes, no, no, api.OK}, {api.OpAnd, no, yes, no, api.OK}, {api.OpAnd, no, no, no, api.OK},
		{api.OpOr, yes, yes, yes, api.OK}, {api.OpOr, yes, no, yes, api.OK}, {api.OpOr, no, yes, yes, api.OK}, {api.OpOr, no, no, no, api.OK},
		{api.OpAnd, no, value.Int(1), none, api.ErrType}, {api.OpOr, yes, value.Int(1), none, api.ErrType}, {api.OpOr, value.Int(1), value.Int(1), none, api.ErrType},
		{api.OpAdd, value.Int(2), value.Int(3), value.Int(5), api.OK}, {api.OpAdd, value.Int(math.MaxInt64), value.Int(1), none, api.ErrOver},
		{api.OpSub, value.Int(2), value.Int(3), value.Int(-1), api.OK}, {api.OpSub, value.Int(0), value.Int(math.MinInt64), none, api.ErrOver},
		{api.OpMul, value.Int(-2), value.Int(3), value.Int(-6), api.OK}, {api.OpMul, value.Int(1 << 32), value.Int(1 << 31), none, api.ErrOver},
		{api.OpDiv, value.Int(-7), value.Int(2), value.Int(-3), api.OK}, {api.OpDiv, value.Int(1), value.Int(0), none, api.ErrZero},
		{api.OpDiv, value.Int(math.MinInt64), value.Int(-1), none, api.ErrOver},
		{api.OpMod, value.Int(-7), value.Int(2), value.Int(-1), api.OK}, {api.OpMod, value.Int(0), value.Int(0), none, api.ErrZero},
		{api.OpMod, value.Int(math.MinInt64), value.Int(-1), value.Int(0), api.OK}, {api.OpDiv, value.Str("a"), value.Int(0), none, api.ErrType},
		{api.OpAdd, value.Str("ab"), value.Str("c"), value.Str("abc"), api.OK}, {api.OpAdd, value.Str(""), value.Str(""), value.Str(""), api.OK},
		{api.OpAdd, value.Str(half), value.Str(half), value.Str(most), api.OK}, {api.OpAdd, value.Str(most), value.Str(""), value.Str(most), api.OK},
		{api.OpAdd, value.Str(half), value.Str(half + "b"), none, api.ErrLong}, {api.OpAdd, value.Str(most), value.Str("b"), none, api.ErrLong},
		{api.OpAdd, value.Str(""), value.Str(most), value.Str(most), api.OK}, {api.OpAdd, value.Str(most), value.Str(most), none, api.ErrLong},
		{api.OpAdd, value.Str("1"), value.Int(1), none, api.ErrType}, {api.OpAdd, yes, no, none, api.ErrType}, {api.OpSub, value.Str("a"), value.Str("a"), none, api.ErrType},
		{api.OpEq, value.Int(1), value.Int(1), yes, api.OK}, {api.OpEq, value.Str("a"), value.Str("b"), no, api.OK}, {api.OpEq, no, no, yes, api.OK},
		{api.OpNe, value.Int(1), value.Int(1), no, api.OK}, {api.OpNe, value.Str("a"), value.Str("b"), yes, api.OK}, {api.OpNe, no, yes, yes, api.OK},
		{api.OpEq, value.Int(1), value.Str("1"), none, api.ErrType}, {api.OpNe, value.Int(0), no, none, api.ErrType}, {api.OpEq, none, none, none, api.ErrType},
		{api.OpLt, value.Int(-2), value.Int(-1), yes, api.OK}, {api.OpLt, value.Int(1), value.Int(1), no, api.OK}, {api.OpLt, value.Str("10"), value.Str("9"), yes, api.OK},
		{api.OpLe, value.Int(1), value.Int(1), yes, api.OK}, {api.OpLe, value.Int(2), value.Int(1), no, api.OK}, {api.OpLe, value.Str("a"), value.Str("ab"), yes, api.OK},
		{api.OpLt, no, yes, none, api.ErrType}, {api.OpLe, yes, yes, none, api.ErrType}, {api.OpLt, value.Int(1), value.Str("a"), none, api.ErrType},
	} {
		if got, e := value.Op(x.op, x.a, x.b); got != x.want || e != x.e {
			t.Errorf("Op(%d, %.40v, %.40v) = %.40v, %d; want %.40v, %d", x.op, x.a, x.b, got, e, x.want, x.e)
		}
	}
}

// wantOp is what an operator must make of values that may be, told without Less and Type.
func wantOp(op int, a, b api.Value) (api.Value, api.Errno) {
	if wantType(op, a.Kind, b.Kind) == 0 {
		return api.Value{}, api.ErrType
	}
	if op == api.OpAdd && a.Kind == api.Str {
		if s := a.Str + b.Str; len(s) <= 4096 {
			return api.Value{Kind: api.Str, Str: s}, api.OK
		}
		return api.Value{}, api.ErrLong
	}
	if slices.Contains([]int{api.OpNeg, api.OpAdd, api.OpSub, api.OpMul, api.OpDiv, api.OpMod}, op) {
		n, e := num.Op(op, a.Int, b.Int)
		if e != api.OK {
			return api.Value{}, e
		}
		return api.Value{Kind: api.Int, Int: n}, api.OK
	}
	side := strings.Compare(a.Str, b.Str)
	if a.Kind == api.Int {
		side = big.NewInt(a.Int).Cmp(big.NewInt(b.Int))
	}
	truth := map[int]bool{
		api.OpNot: !a.Bool, api.OpAnd: a.Bool && b.Bool, api.OpOr: a.Bool || b.Bool,
		api.OpEq: side == 0 && a.Bool == b.Bool, api.OpNe: side != 0 || a.Bool != b.Bool,
		api.OpLt: side < 0, api.OpLe: side <= 0,
	}[op]
	return api.Value{Kind: api.Bool, Bool: truth}, api.OK
}

// checkOp holds an answer against the chapter's list; what is answered may be, and is of the kind that Type tells.
func checkOp(t *testing.T, op int, a, b api.Value) {
	t.Helper()
	got, e := value.Op(op, a, b)
	want, wantE := wantOp(op, a, b)
	if got != want || e != wantE {
		t.Fatalf("Op(%d, %.40v, %.40v) = %.40v, %d; want %.40v, %d", op, a, b, got, e, want, wantE)
	}
	kind := value.Type(op, a.Kind, b.Kind)
	if (e == api.ErrType) != (kind == 0) || e == api.OK && (got.Kind != kind || !value.Right(got)) {
		t.Fatalf("Op(%d, %.40v, %.40v) = %.40v, %d, but its kind is %d", op, a, b, got, e, kind)
	}
}

// 3.3: each operator with any two values.
func TestOpOfEachTwo(t *testing.T) {
	l := rising()
	for _, op := range operators() {
		for _, a := range l {
			for _, b := range l {
				checkOp(t, op, a, b)
			}
		}
	}
}

// 3.3: operators of one value take whatever stands in the second place, also what may not be.
func TestOpOfOne(t *testing.T) {
	for _, op := range []int{api.OpNot, api.OpNeg} {
		for _, a := range rising() {
			want, wantE := value.Op(op, a, api.Value{})
			for _, b := range append(wrong(), rising()...) {
				checkOp(t, op, a, b)
				if got, e := value.Op(op, a, b); got != want || e != wantE {
					t.Errorf("Op(%d, %.40v, %.40v) = %v, %d; want %v, %d", op, a, b, got, e, want, wantE)
				}
			}
		}
	}
}

// 3.3: what is no operator of values is refused ahead of values that it would not be for.
func TestOpRefusesOthers(t *testing.T) {
	others := []int{math.MinInt, math.MaxInt, math.MinInt32, math.MaxInt32, 1<<32 + api.OpEq}
	for op := -20; op <= 300; op++ {
		if !slices.Contains(operators(), op) {
			others = append(others, op)
		}
	}
	l := []api.Value{{}, {Kind: 4}, value.Int(1), value.Int(0), value.Str(""), value.Bool(true)}
	for _, op := range others {
		for _, a := range l {
			for _, b := range l {
				if v, e := value.Op(op, a, b); v != (api.Value{}) || e != api.ErrArg {
					t.Errorf("Op(%d, %v, %v) = %v, %d; want none, ErrArg", op, a, b, v, e)
				}
			}
		}
	}
}

// Values of kinds that there are not are of no operator's; of others that may not be nothing is promised, but that the call ends.
func TestOpOfOthersEnds(t *testing.T) {
	l := append(wrong(), value.Int(1), value.Str("a"), value.Bool(true))
	for _, op := range operators() {
		for _, a := range l {
			for _, b := range l {
				v, e := value.Op(op, a, b)
				if e != api.OK && v != (api.Value{}) {
					t.Errorf("Op(%d, %.40v, %.40v) = %.40v beside error %d", op, a, b, v, e)
				}
				if value.Name(a.Kind) == "" && e != api.ErrType {
					t.Errorf("Op(%d, %.40v, %.40v) = %.40v, %d; want ErrType", op, a, b, v, e)
				}
			}
		}
	}
}

var number = regexp.MustCompile(`^(0|-?[1-9][0-9]*)$`)

// wantParse is what Parse must answer, told by forms.
func wantParse(s string) (api.Value, api.Errno) {
	if s == "true" || s == "false" {
		return api.Value{Kind: api.Bool, Bool: s == "true"}, api.OK
	}
	if number.MatchString(s) {
		n, _ := new(big.Int).SetString(s, 10)
		if !n.IsInt64() {
			return api.Value{}, api.ErrRange
		}
		return api.Value{Kind: api.Int, Int: n.Int64()}, api.OK
	}
	text, ok := quote.Unquote(s)
	if !ok {
		return api.Value{}, api.ErrForm
	}
	if len(text) > 4096 {
		return api.Value{}, api.ErrLong
	}
	return api.Value{Kind: api.Str, Str: text}, api.OK
}

// checkParse holds Parse against the forms; what is parsed has the text it was parsed of.
func checkParse(t *testing.T, s string) {
	t.Helper()
	got, e := value.Parse(s)
	want, wantE := wantParse(s)
	if got != want || e != wantE {
		t.Fatalf("Parse(%.60q) = %.60v, %d; want %.60v, %d", s, got, e, want, wantE)
	}
	if e == api.OK && value.Text(got) != s {
		t.Fatalf("Text(%.60v) = %.60s; want %.60s", got, value.Text(got), s)
	}
}

// 3.2: all short texts of the bytes that mean something, and all that differ by one byte from a value's text.
func TestParseEachShortText(t *testing.T) {
	const bytes = "\"\\x019-tn \x80"
	texts := []string{""}
	for range 5 {
		var longer []string
		for _, s := range texts {
			for i := range len(bytes) {
				longer = append(longer, s+bytes[i:i+1])
			}
		}
		for _, s := range longer {
			checkParse(t, s)
		}
		texts = longer
	}
	for _, s := range []string{"true", "false", "0", "-12", `""`, `"a\n\x00"`, "9223372036854775807", "-9223372036854775808"} {
		for i := range len(s) {
			checkParse(t, s[:i]+s[i+1:])
			for c := range 256 {
				checkParse(t, s[:i]+string([]byte{byte(c)})+s[i+1:])
				checkParse(t, s[:i]+string([]byte{byte(c)})+s[i:])
			}
		}
	}
}

func FuzzParse(f *testing.F) {
	for _, s := range []string{"", "0", "-0", "true", "false", `""`, `"a\n"`, `"\x41"`, "9223372036854775808"} {
		f.Add(s)
	}
	f.Fuzz(func(t *testing.T, s string) {
		checkParse(t, s)
		if v := value.Str(s); value.Right(v) {
			checkParse(t, value.Text(v))
		} else if _, e := value.Parse(quote.Quote(s)); e != api.ErrLong {
			t.Fatalf("a text of %d bytes: error %d; want ErrLong", len(s), e)
		}
	})
}

func FuzzOp(f *testing.F) {
	f.Add(int64(math.MinInt64), int64(-1), "a", "b", true, false)
	f.Add(int64(7), int64(0), "", "\xff", false, false)
	f.Fuzz(func(t *testing.T, m, n int64, r, s string, p, q bool) {
		if len(r) > api.MaxStr || len(s) > api.MaxStr {
			return
		}
		l := []api.Value{value.Int(m), value.Int(n), value.Str(r), value.Str(s), value.Bool(p), value.Bool(q)}
		for _, a := range l {
			for _, b := range l {
				for _, op := range operators() {
					checkOp(t, op, a, b)
				}
				if (a == b) == (value.Less(a, b) != value.Less(b, a)) {
					t.Fatalf("%.40v and %.40v: not just one is ahead", a, b)
				}
			}
		}
	})
}
