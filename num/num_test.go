package num_test

import (
	"math"
	"math/big"
	"regexp"
	"slices"
	"strings"
	"testing"

	"proctor/api"
	"proctor/num"
)

// edges are numbers about which sums, products and quotients go over, or just do not.
var edges = []int64{
	math.MinInt64, math.MinInt64 + 1, math.MinInt64 + 2,
	math.MinInt64/2 - 1, math.MinInt64 / 2, math.MinInt64/2 + 1,
	-(1 << 32), -3037000500, -3037000499, -(1 << 31), -1000, -10, -9, -7, -3, -2, -1,
	0, 1, 2, 3, 7, 9, 10, 1000, 1 << 31, 3037000499, 3037000500, 1 << 32,
	math.MaxInt64/2 - 1, math.MaxInt64 / 2, math.MaxInt64/2 + 1,
	math.MaxInt64 - 2, math.MaxInt64 - 1, math.MaxInt64,
}

type two struct {
	name string
	op   int
	do   func(a, b int64) (int64, api.Errno)
	want func(a, b *big.Int) *big.Int
}

func twos() []two {
	return []two{
		{"Add", api.OpAdd, num.Add, func(a, b *big.Int) *big.Int { return new(big.Int).Add(a, b) }},
		{"Sub", api.OpSub, num.Sub, func(a, b *big.Int) *big.Int { return new(big.Int).Sub(a, b) }},
		{"Mul", api.OpMul, num.Mul, func(a, b *big.Int) *big.Int { return new(big.Int).Mul(a, b) }},
		{"Div", api.OpDiv, num.Div, func(a, b *big.Int) *big.Int { return new(big.Int).Quo(a, b) }},
		{"Mod", api.OpMod, num.Mod, func(a, b *big.Int) *big.Int { return new(big.Int).Rem(a, b) }},
	}
}

// expected is what an operator of two numbers must answer, told by numbers of any size.
func expected(x two, a, b int64) (int64, api.Errno) {
	if b == 0 && (x.op == api.OpDiv || x.op == api.OpMod) {
		return 0, api.ErrZero
	}
	return fitted(x.want(big.NewInt(a), big.NewInt(b)))
}

func fitted(n *big.Int) (int64, api.Errno) {
	if !n.IsInt64() {
		return 0, api.ErrOver
	}
	return n.Int64(), api.OK
}

// 1.1, 1.2: each function, and Op by its operator, against numbers of any size.
func TestOperatorsOfTwoAtEdges(t *testing.T) {
	for _, x := range twos() {
		for _, a := range edges {
			for _, b := range edges {
				want, e := expected(x, a, b)
				if n, err := x.do(a, b); n != want || err != e {
					t.Errorf("%s(%d, %d) = %d, %d; want %d, %d", x.name, a, b, n, err, want, e)
				}
				if n, err := num.Op(x.op, a, b); n != want || err != e {
					t.Errorf("Op(%d, %d, %d) = %d, %d; want %d, %d", x.op, a, b, n, err, want, e)
				}
			}
		}
	}
}

// 1.1: numbers written out, so that no other reckoning stands between.
func TestOperatorsWrittenOut(t *testing.T) {
	for _, x := range []struct {
		name string
		do   func(a, b int64) (int64, api.Errno)
		a, b int64
		want int64
		e    api.Errno
	}{
		{"Add", num.Add, 2, 3, 5, api.OK},
		{"Add", num.Add, math.MaxInt64, 0, math.MaxInt64, api.OK},
		{"Add", num.Add, math.MaxInt64, 1, 0, api.ErrOver},
		{"Add", num.Add, math.MinInt64, -1, 0, api.ErrOver},
		{"Add", num.Add, math.MinInt64, math.MinInt64, 0, api.ErrOver},
		{"Sub", num.Sub, 2, 3, -1, api.OK},
		{"Sub", num.Sub, 0, math.MinInt64, 0, api.ErrOver},
		{"Sub", num.Sub, -1, math.MinInt64, math.MaxInt64, api.OK},
		{"Mul", num.Mul, -4, 5, -20, api.OK},
		{"Mul", num.Mul, math.MinInt64, 0, 0, api.OK},
		{"Mul", num.Mul, math.MinInt64, 1, math.MinInt64, api.OK},
		{"Mul", num.Mul, math.MinInt64, -1, 0, api.ErrOver},
		{"Mul", num.Mul, -1, math.MinInt64, 0, api.ErrOver},
		{"Mul", num.Mul, 1 << 32, 1 << 32, 0, api.ErrOver},
		{"Mul", num.Mul, math.MaxInt64, -1, -math.MaxInt64, api.OK},
		{"Div", num.Div, -7, 2, -3, api.OK},
		{"Div", num.Div, 7, -2, -3, api.OK},
		{"Div", num.Div, -7, -2, 3, api.OK},
		{"Div", num.Div, 0, 0, 0, api.ErrZero},
		{"Div", num.Div, math.MinInt64, 0, 0, api.ErrZero},
		{"Div", num.Div, math.MinInt64, -1, 0, api.ErrOver},
		{"Div", num.Div, math.MinInt64, 1, math.MinInt64, api.OK},
		{"Mod", num.Mod, -7, 2, -1, api.OK},
		{"Mod", num.Mod, 7, -2, 1, api.OK},
		{"Mod", num.Mod, 0, 0, 0, api.ErrZero},
		{"Mod", num.Mod, math.MinInt64, -1, 0, api.OK},
		{"Mod", num.Mod, math.MinInt64, math.MaxInt64, -1, api.OK},
	} {
		if n, e := x.do(x.a, x.b); n != x.want || e != x.e {
			t.Errorf("%s(%d, %d) = %d, %d; want %d, %d", x.name, x.a, x.b, n, e, x.want, x.e)
		}
	}
}

// 1.1, 1.2: Neg, and OpNeg whatever the second number is.
func TestNeg(t *testing.T) {
	for _, a := range edges {
		want, e := fitted(new(big.Int).Neg(big.NewInt(a)))
		if n, err := num.Neg(a); n != want || err != e {
			t.Errorf("Neg(%d) = %d, %d; want %d, %d", a, n, err, want, e)
		}
		for _, b := range edges {
			if n, err := num.Op(api.OpNeg, a, b); n != want || err != e {
				t.Errorf("Op(OpNeg, %d, %d) = %d, %d; want %d, %d", a, b, n, err, want, e)
			}
		}
	}
	if n, e := num.Neg(math.MinInt64); n != 0 || e != api.ErrOver {
		t.Errorf("Neg(-2^63) = %d, %d", n, e)
	}
}

// 1.1: the sum goes one by one, so that an error on the way stays, though the whole would fit.
func TestSum(t *testing.T) {
	for _, x := range []struct {
		l    []int64
		want int64
		e    api.Errno
	}{
		{nil, 0, api.OK},
		{[]int64{}, 0, api.OK},
		{[]int64{math.MinInt64}, math.MinInt64, api.OK},
		{[]int64{1, 2, 3, -10}, -4, api.OK},
		{[]int64{math.MaxInt64, math.MinInt64, 1}, 0, api.OK},
		{[]int64{math.MaxInt64, 1}, 0, api.ErrOver},
		{[]int64{math.MaxInt64, 1, -1}, 0, api.ErrOver},
		{[]int64{math.MinInt64, -1, 5}, 0, api.ErrOver},
		{[]int64{math.MaxInt64, -1, 1}, math.MaxInt64, api.OK},
	} {
		given := slices.Clone(x.l)
		if n, e := num.Sum(x.l...); n != x.want || e != x.e {
			t.Errorf("Sum(%v) = %d, %d; want %d, %d", x.l, n, e, x.want, x.e)
		}
		if !slices.Equal(given, x.l) {
			t.Errorf("Sum changed %v to %v", given, x.l)
		}
	}
	if n, e := num.Sum(); n != 0 || e != api.OK {
		t.Errorf("Sum() = %d, %d", n, e)
	}
}

// 1.2: all operators that are not of numbers, and those that there are not, ahead of any other error.
func TestOpRefusesOthers(t *testing.T) {
	known := []int{api.OpAdd, api.OpSub, api.OpMul, api.OpDiv, api.OpMod, api.OpNeg}
	others := []int{math.MinInt, math.MaxInt, math.MinInt32, math.MaxInt32, 1<<32 + api.OpAdd}
	for op := -20; op <= 300; op++ {
		if !slices.Contains(known, op) {
			others = append(others, op)
		}
	}
	for _, op := range others {
		for _, b := range []int64{0, 1, -1, math.MinInt64} {
			if n, e := num.Op(op, math.MinInt64, b); n != 0 || e != api.ErrArg {
				t.Errorf("Op(%d, -2^63, %d) = %d, %d; want 0, ErrArg", op, b, n, e)
			}
		}
	}
}

// 1.3, 1.4: texts written out, and the numbers that they are of.
func TestTextAndParse(t *testing.T) {
	for s, n := range map[string]int64{
		"0": 0, "1": 1, "-1": -1, "9": 9, "10": 10, "-10": -10, "100200300": 100200300,
		"9223372036854775807": math.MaxInt64, "-9223372036854775807": -math.MaxInt64,
		"9223372036854775806": math.MaxInt64 - 1, "-9223372036854775808": math.MinInt64,
	} {
		if got := num.Text(n); got != s {
			t.Errorf("Text(%d) = %q; want %q", n, got, s)
		}
		if got, e := num.Parse(s); got != n || e != api.OK {
			t.Errorf("Parse(%q) = %d, %d; want %d, OK", s, got, e, n)
		}
	}
	for _, n := range edges {
		s := num.Text(n)
		if s != big.NewInt(n).String() {
			t.Errorf("Text(%d) = %q", n, s)
		}
		if got, e := num.Parse(s); got != n || e != api.OK {
			t.Errorf("Parse(%q) = %d, %d; want %d, OK", s, got, e, n)
		}
	}
}

// 1.3: wrong texts; those of no number's form are so however great they would be.
func TestParseRefuses(t *testing.T) {
	long := strings.Repeat("9", 100000)
	for s, want := range map[string]api.Errno{
		"": api.ErrForm, "-": api.ErrForm, "+": api.ErrForm, "--": api.ErrForm, "--1": api.ErrForm,
		"+1": api.ErrForm, "+0": api.ErrForm, "-0": api.ErrForm, "00": api.ErrForm, "01": api.ErrForm,
		"-01": api.ErrForm, "-00": api.ErrForm, " 1": api.ErrForm, "1 ": api.ErrForm, "- 1": api.ErrForm,
		"1\n": api.ErrForm, "\x001": api.ErrForm, "1\x00": api.ErrForm, "1-": api.ErrForm, "1-1": api.ErrForm,
		"1_000": api.ErrForm, "0x1": api.ErrForm, "0b1": api.ErrForm, "1e3": api.ErrForm, "1.0": api.ErrForm,
		".1": api.ErrForm, "a": api.ErrForm, "1a": api.ErrForm, "/": api.ErrForm, ":": api.ErrForm, "1/": api.ErrForm,
		"1:": api.ErrForm, "\xff": api.ErrForm, "1\xb2": api.ErrForm, "\u0661": api.ErrForm, "\u22121": api.ErrForm,
		"9223372036854775808": api.ErrRange, "-9223372036854775809": api.ErrRange,
		"18446744073709551615": api.ErrRange, "18446744073709551616": api.ErrRange, "18446744073709551617": api.ErrRange,
		"-18446744073709551615": api.ErrRange, "10000000000000000000": api.ErrRange, "-10000000000000000000": api.ErrRange,
		"09223372036854775808": api.ErrForm, "-09223372036854775809": api.ErrForm, "+9223372036854775808": api.ErrForm,
		"9223372036854775808 ": api.ErrForm, "18446744073709551616x": api.ErrForm, "18446744073709551616_0": api.ErrForm,
		long: api.ErrRange, "-" + long: api.ErrRange, "0" + long: api.ErrForm, long + "x": api.ErrForm, "+" + long: api.ErrForm,
	} {
		if n, e := num.Parse(s); n != 0 || e != want {
			t.Errorf("Parse of %q.. (%d bytes) = %d, %d; want 0, %d", s[:min(len(s), 40)], len(s), n, e, want)
		}
	}
}

var form = regexp.MustCompile(`\A(0|-?[1-9][0-9]*)\z`)

// checkParse holds Parse against the form as a pattern, and numbers of any size.
func checkParse(t *testing.T, s string) {
	t.Helper()
	n, e := num.Parse(s)
	if !form.MatchString(s) {
		if n != 0 || e != api.ErrForm {
			t.Errorf("Parse(%q) = %d, %d; want 0, ErrForm", s, n, e)
		}
		return
	}
	whole, _ := new(big.Int).SetString(s, 10)
	if !whole.IsInt64() {
		if n != 0 || e != api.ErrRange {
			t.Errorf("Parse(%q) = %d, %d; want 0, ErrRange", s, n, e)
		}
		return
	}
	if n != whole.Int64() || e != api.OK || num.Text(n) != s {
		t.Errorf("Parse(%q) = %d, %d; want %d, OK", s, n, e, whole.Int64())
	}
}

// 1.4: all short texts of the bytes that matter, and each byte alone and behind another one: none but numbers' texts is parsed.
func TestParsesNoOtherText(t *testing.T) {
	var grow func(s string)
	grow = func(s string) {
		checkParse(t, s)
		if len(s) == 5 {
			return
		}
		for _, c := range []byte("-+0159 _.ax") {
			grow(s + string(c))
		}
	}
	grow("")
	for b := range 256 {
		for _, s := range []string{"", "1", "-", "-1", "0"} {
			checkParse(t, s+string([]byte{byte(b)}))
			checkParse(t, string([]byte{byte(b)})+s)
		}
	}
}

// 1.3: texts about both ends, digit by digit.
func TestParseAboutTheEnds(t *testing.T) {
	for _, end := range []*big.Int{
		big.NewInt(math.MinInt64), big.NewInt(math.MaxInt64),
		new(big.Int).Lsh(big.NewInt(1), 64), new(big.Int).Neg(new(big.Int).Lsh(big.NewInt(1), 64)),
	} {
		for d := int64(-1000); d <= 1000; d++ {
			checkParse(t, new(big.Int).Add(end, big.NewInt(d)).String())
		}
	}
}

func FuzzParse(f *testing.F) {
	for _, s := range []string{"", "0", "-0", "01", "-9223372036854775808", "9223372036854775808", "+1", "1_0"} {
		f.Add(s)
	}
	f.Fuzz(checkParse)
}

func FuzzOperators(f *testing.F) {
	f.Add(int64(math.MinInt64), int64(-1))
	f.Add(int64(7), int64(0))
	f.Fuzz(func(t *testing.T, a, b int64) {
		for _, x := range twos() {
			want, e := expected(x, a, b)
			if n, err := x.do(a, b); n != want || err != e {
				t.Errorf("%s(%d, %d) = %d, %d; want %d, %d", x.name, a, b, n, err, want, e)
			}
		}
	})
}
