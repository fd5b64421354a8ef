package binding_test

import (
	"maps"
	"math"
	"math/big"
	"math/rand"
	"slices"
	"strings"
	"testing"

	"proctor/api"
	"proctor/binding"
	"proctor/value"
)

// at is a slot: a variable, and its value.
func at(v int, x api.Value) api.Slot { return api.Slot{Var: v, Value: x} }

// is is a slot: a variable, and its number.
func is(v int, n int64) api.Slot { return at(v, value.Int(n)) }

// bind is a list of slots, as it is written.
func bind(l ...api.Slot) []api.Slot { return l }

// rising are values that may be, each ahead of all that stand behind it.
func rising() []api.Value {
	return []api.Value{
		value.Int(math.MinInt64), value.Int(-256), value.Int(-1), value.Int(0), value.Int(1), value.Int(2), value.Int(10), value.Int(math.MaxInt64),
		value.Str(""), value.Str("\x00"), value.Str("\x00\x01"), value.Str("\x01"), value.Str("\x10"), value.Str("10"), value.Str("2"),
		value.Str("a"), value.Str("a\x00"), value.Str("ab"), value.Str("b"), value.Str("\xff"), value.Str(strings.Repeat("\xff", api.MaxStr)),
		value.Bool(false), value.Bool(true),
	}
}

// wrongValues are values that may not be.
func wrongValues() []api.Value {
	return []api.Value{
		{}, {Int: 1}, {Str: "a"}, {Bool: true}, {Kind: -1}, {Kind: 4}, {Kind: 256 + api.Int}, {Kind: math.MinInt}, {Kind: math.MaxInt},
		{Kind: api.Int, Str: "a"}, {Kind: api.Int, Bool: true}, {Kind: api.Str, Int: 1}, {Kind: api.Str, Str: "a", Bool: true},
		{Kind: api.Bool, Int: 1}, {Kind: api.Bool, Bool: true, Str: "\x00"}, value.Str(strings.Repeat("a", api.MaxStr+1)),
	}
}

// wrongVars are numbers of no variable that a binding may have.
func wrongVars() []int {
	return []int{-1, -2, -8, -16, 8, 9, 16, 255, 256, 264, 1 << 32, math.MinInt, math.MinInt + 1, math.MaxInt - 1, math.MaxInt}
}

// world are all bindings of some variables with some values, in no order.
func world(vars []int, values []api.Value) [][]api.Slot {
	l := [][]api.Slot{nil}
	for _, v := range vars {
		for _, b := range slices.Clone(l) {
			for _, x := range values {
				l = append(l, append(slices.Clone(b), at(v, x)))
			}
		}
	}
	return l
}

// small are bindings of up to four variables, 0 and 7 among them, with values of each kind.
func small() [][]api.Slot {
	return world([]int{0, 1, 4, 7}, []api.Value{value.Int(1), value.Str("\x00"), value.Bool(false)})
}

// great are bindings of all variables that there may be, and of nearly all of them.
func great() [][]api.Slot {
	var all []api.Slot
	for v := range api.MaxQuants {
		all = append(all, at(v, rising()[v*2]))
	}
	l := [][]api.Slot{all}
	for i := range all {
		l = append(l, slices.Concat(all[:i], all[i+1:]))
		other := slices.Clone(all)
		other[i].Value = value.Str("other")
		l = append(l, other)
	}
	return l
}

// asMap are the slots of a binding without their order.
func asMap(b []api.Slot) map[int]api.Value {
	m := map[int]api.Value{}
	for _, s := range b {
		m[s.Var] = s.Value
	}
	return m
}

// asList is the binding of slots that stand in no order.
func asList(m map[int]api.Value) []api.Slot {
	var b []api.Slot
	for _, v := range slices.Sorted(maps.Keys(m)) {
		b = append(b, at(v, m[v]))
	}
	return b
}

// wantOf says anew, straight from the chapter's words, what the binding of slots is.
func wantOf(l []api.Slot) ([]api.Slot, bool) {
	m := map[int]api.Value{}
	for _, s := range l {
		if x, ok := m[s.Var]; ok && x != s.Value {
			return nil, false
		}
		if s.Var < 0 || s.Var > 7 || !value.Right(s.Value) {
			return nil, false
		}
		m[s.Var] = s.Value
	}
	return asList(m), true
}

// wantUnder says anew whether b has all slots of a, too.
func wantUnder(a, b []api.Slot) bool {
	m := asMap(b)
	for _, s := range a {
		if x, ok := m[s.Var]; !ok || x != s.Value {
			return false
		}
	}
	return true
}

// wantUnion says anew what two bindings are together, and whether they fit.
func wantUnion(a, b []api.Slot) ([]api.Slot, bool) {
	return wantOf(slices.Concat(a, b))
}

// wantLess says anew whether a is ahead of b.
func wantLess(a, b []api.Slot) bool {
	if len(a) != len(b) {
		return len(a) < len(b)
	}
	for i := range a {
		if a[i].Var != b[i].Var {
			return a[i].Var < b[i].Var
		}
		if a[i].Value != b[i].Value {
			return value.Less(a[i].Value, b[i].Value)
		}
	}
	return false
}

// wantKey says anew what the key of a binding is, with the words of chapter 4.
func wantKey(b []api.Slot) string {
	var k []byte
	for _, s := range b {
		k = append(k, byte(s.Var)+16, byte(s.Value.Kind))
		switch s.Value.Kind {
		case api.Int:
			n := new(big.Int).Add(big.NewInt(s.Value.Int), new(big.Int).Lsh(big.NewInt(1), 63))
			k = append(k, n.FillBytes(make([]byte, 8))...)
		case api.Str:
			k = append(k, strings.ReplaceAll(s.Value.Str, "\x00", "\x00\xff")+"\x00\x01"...)
		case api.Bool:
			k = append(k, map[bool]byte{false: 0, true: 1}[s.Value.Bool])
		}
	}
	return string(k)
}

// inOrder are bindings in their order, each once, put there one by one.
func inOrder(l [][]api.Slot) [][]api.Slot {
	var out [][]api.Slot
	for _, b := range l {
		i := 0
		for i < len(out) && wantLess(out[i], b) {
			i++
		}
		if i == len(out) || wantLess(b, out[i]) {
			out = slices.Insert(out, i, b)
		}
	}
	return out
}

// wantUnder1 says anew which bindings are under b and have one slot less.
func wantUnder1(b []api.Slot) [][]api.Slot {
	var l [][]api.Slot
	for _, s := range b {
		m := asMap(b)
		delete(m, s.Var)
		l = append(l, asList(m))
	}
	return inOrder(l)
}

// wantMost says anew which of l are the greatest ones under b.
func wantMost(l [][]api.Slot, b []api.Slot) [][]api.Slot {
	var under [][]api.Slot
	for _, x := range inOrder(l) {
		if wantUnder(x, b) {
			under = append(under, x)
		}
	}
	var most [][]api.Slot
	for _, x := range under {
		above := 0
		for _, y := range under {
			if !slices.Equal(x, y) && wantUnder(x, y) {
				above++
			}
		}
		if above == 0 {
			most = append(most, x)
		}
	}
	return most
}

// equal tells whether two lists of bindings are the same.
func equal(a, b [][]api.Slot) bool {
	return slices.EqualFunc(a, b, func(x, y []api.Slot) bool { return slices.Equal(x, y) })
}

// copied are bindings in memory of their own.
func copied(l [][]api.Slot) [][]api.Slot {
	var out [][]api.Slot
	for _, b := range l {
		out = append(out, slices.Clone(b))
	}
	return out
}

// checkOf holds Of against the chapter's words; what it answers may be, and l is as it was.
func checkOf(t *testing.T, l ...api.Slot) {
	t.Helper()
	given := slices.Clone(l)
	got, ok := binding.Of(l...)
	want, wantOk := wantOf(l)
	if !slices.Equal(got, want) || ok != wantOk {
		t.Fatalf("Of(%.80v) = %.80v, %v; want %.80v, %v", l, got, ok, want, wantOk)
	}
	if ok && !binding.Right(got) {
		t.Fatalf("Of(%.80v) = %.80v, which may not be", l, got)
	}
	if !slices.Equal(l, given) {
		t.Fatalf("Of changed %.80v to %.80v", given, l)
	}
}

// 5.1: bindings written out: slots in any order, slots that come twice, unlike values, and what may not be.
func TestOfWrittenOut(t *testing.T) {
	long := value.Str(strings.Repeat("a", api.MaxStr))
	for _, x := range []struct {
		l, want []api.Slot
		ok      bool
	}{
		{nil, nil, true},
		{bind(), nil, true},
		{bind(is(0, 5)), bind(is(0, 5)), true},
		{bind(is(7, 5)), bind(is(7, 5)), true},
		{bind(is(3, 1), is(0, 2), is(3, 1)), bind(is(0, 2), is(3, 1)), true},
		{bind(is(2, 1), is(1, 2), is(0, 3)), bind(is(0, 3), is(1, 2), is(2, 1)), true},
		{bind(is(1, 5), is(0, 5), is(1, 5), is(0, 5), is(1, 5)), bind(is(0, 5), is(1, 5)), true},
		{bind(at(5, long), at(2, value.Bool(false)), at(5, long)), bind(at(2, value.Bool(false)), at(5, long)), true},
		{bind(is(3, 1), is(3, 2)), nil, false},
		{bind(is(3, 2), is(3, 1)), nil, false},
		{bind(is(3, 1), is(0, 1), is(3, 2)), nil, false},
		{bind(is(0, 1), at(0, value.Str("1"))), nil, false},
		{bind(is(0, 0), at(0, value.Bool(false))), nil, false},
		{bind(is(-1, 1)), nil, false},
		{bind(is(8, 1)), nil, false},
		{bind(is(0, 1), is(8, 1)), nil, false},
		{bind(is(-1, 1), is(0, 1)), nil, false},
		{bind(is(8, 1), is(8, 1)), nil, false},
		{bind(at(0, api.Value{})), nil, false},
		{bind(is(0, 1), at(1, value.Str(long.Str+"a"))), nil, false},
	} {
		if got, ok := binding.Of(x.l...); !slices.Equal(got, x.want) || ok != x.ok {
			t.Errorf("Of(%.80v) = %.80v, %v; want %.80v, %v", x.l, got, ok, x.want, x.ok)
		}
		checkOf(t, x.l...)
	}
	if got, ok := binding.Of(); len(got) != 0 || !ok {
		t.Errorf("Of() = %v, %v; want the empty one", got, ok)
	}
}

// 5.1: all lists of up to four slots, of like and unlike values, of variables that there are and are not.
func TestOfEachShortList(t *testing.T) {
	some := bind(is(0, 1), is(0, 2), at(0, value.Str("")), is(3, 1), at(3, value.Bool(true)), is(7, 1), is(8, 1), is(-1, 1), at(0, api.Value{}), at(3, api.Value{Kind: api.Int, Bool: true}))
	lists := [][]api.Slot{nil}
	for i := 0; i < len(lists); i++ {
		checkOf(t, lists[i]...)
		if len(lists[i]) == 4 {
			continue
		}
		for _, s := range some {
			lists = append(lists, append(slices.Clone(lists[i]), s))
		}
	}
}

// 5.1: slots in any order, each as often as one likes, are the binding that has them.
func TestOfAnyOrder(t *testing.T) {
	r := rand.New(rand.NewSource(5))
	for _, b := range append(small(), great()...) {
		for range 8 {
			l := slices.Clone(b)
			for range r.Intn(2 * (len(b) + 1)) {
				if len(b) > 0 {
					l = append(l, b[r.Intn(len(b))])
				}
			}
			r.Shuffle(len(l), func(i, k int) { l[i], l[k] = l[k], l[i] })
			if got, ok := binding.Of(l...); !slices.Equal(got, b) || !ok {
				t.Fatalf("Of(%.80v) = %.80v, %v; want %.80v", l, got, ok, b)
			}
			checkOf(t, l...)
		}
	}
	var many []api.Slot
	for i := range 10000 {
		many = append(many, is(i*5%8, int64(i%8)))
	}
	checkOf(t, many...)
	checkOf(t, append(many, is(2, 99))...)
}

// 5.1: which bindings may be.
func TestRight(t *testing.T) {
	for _, b := range append(small(), great()...) {
		if !binding.Right(b) {
			t.Errorf("Right(%.80v) = false", b)
		}
	}
	for _, x := range rising() {
		if !binding.Right(bind(at(0, x))) || !binding.Right(bind(is(1, 1), at(7, x))) {
			t.Errorf("%.80v: not right", x)
		}
	}
	for _, b := range [][]api.Slot{
		{is(0, 1), is(0, 1)}, {is(0, 1), is(0, 2)}, {is(1, 1), is(0, 1)}, {is(0, 1), is(2, 1), is(1, 1)}, {is(0, 1), is(1, 1), is(1, 1)},
		{is(7, 1), is(7, 1)}, {is(6, 1), is(7, 1), is(8, 1)}, {is(7, 1), is(0, 1)}, append(great()[0], is(7, 1)), append(great()[0], is(8, 1)),
	} {
		if binding.Right(b) {
			t.Errorf("Right(%.80v) = true", b)
		}
	}
	for _, b := range wrong() {
		if binding.Right(b) {
			t.Errorf("Right(%.80v) = true", b)
		}
	}
}

// wrong are lists of slots that are no bindings that may be, by a variable or a value.
func wrong() [][]api.Slot {
	var l [][]api.Slot
	for _, v := range wrongVars() {
		l = append(l, bind(is(v, 1)), bind(is(0, 1), is(v, 1)), bind(is(v, 1), is(7, 1)), bind(is(v, 1), is(v, 2)))
	}
	for _, x := range wrongValues() {
		l = append(l, bind(at(0, x)), bind(is(0, 1), at(1, x)), bind(at(3, x), is(4, 1)), bind(at(0, x), at(0, x)))
	}
	return l
}

// 5.1: nothing and false of what may not be, wherever it stands.
func TestOfWrong(t *testing.T) {
	for _, b := range wrong() {
		for _, l := range [][]api.Slot{b, append(bind(is(5, 1)), b...), append(slices.Clone(b), is(5, 1)), slices.Repeat(b, 2)} {
			if got, ok := binding.Of(l...); len(got) != 0 || ok {
				t.Errorf("Of(%.80v) = %.80v, %v; want nothing", l, got, ok)
			}
			checkOf(t, l...)
		}
	}
}

// 5.1: the value of a variable that a binding has, and of one that it has not.
func TestGet(t *testing.T) {
	for _, b := range append(small(), great()...) {
		m := asMap(b)
		for v := -2; v < 18; v++ {
			want, wantOk := m[v]
			if got, ok := binding.Get(b, v); got != want || ok != wantOk {
				t.Fatalf("Get(%.80v, %d) = %.80v, %v; want %.80v, %v", b, v, got, ok, want, wantOk)
			}
		}
		for _, v := range wrongVars() {
			if got, ok := binding.Get(b, v); got != (api.Value{}) || ok {
				t.Fatalf("Get(%.80v, %d) = %.80v, %v; want nothing", b, v, got, ok)
			}
		}
	}
}

// 5.2: answers written out, the chapter's example among them.
func TestTwoWrittenOut(t *testing.T) {
	five, both := bind(is(0, 5)), bind(is(0, 5), is(1, 6))
	for _, x := range []struct {
		a, b, union       []api.Slot
		under, over, fits bool
	}{
		{nil, nil, nil, true, true, true},
		{bind(), nil, nil, true, true, true},
		{nil, five, five, true, false, true},
		{five, both, both, true, false, true},
		{five, five, five, true, true, true},
		{five, bind(is(1, 6)), both, false, false, true},
		{bind(is(1, 6)), both, both, true, false, true},
		{bind(is(2, 1)), both, bind(is(0, 5), is(1, 6), is(2, 1)), false, false, true},
		{bind(is(0, 5), is(3, 1)), both, bind(is(0, 5), is(1, 6), is(3, 1)), false, false, true},
		{bind(is(0, 6)), both, nil, false, false, false},
		{bind(is(1, 5)), both, nil, false, false, false},
		{bind(is(0, 5), is(1, 7)), both, nil, false, false, false},
		{bind(is(0, 1)), bind(at(0, value.Str("1"))), nil, false, false, false},
		{bind(is(0, 0)), bind(at(0, value.Bool(false))), nil, false, false, false},
		{bind(is(0, 5), is(7, 1)), bind(is(0, 5), is(7, 2)), nil, false, false, false},
	} {
		union, ok := binding.Union(x.a, x.b)
		if !slices.Equal(union, x.union) || ok != x.fits || binding.Fits(x.a, x.b) != x.fits {
			t.Errorf("Union(%v, %v) = %v, %v; want %v, %v", x.a, x.b, union, ok, x.union, x.fits)
		}
		if binding.Under(x.a, x.b) != x.under || binding.Under(x.b, x.a) != x.over {
			t.Errorf("%v and %v: under %v, and %v; want %v, and %v", x.a, x.b, binding.Under(x.a, x.b), binding.Under(x.b, x.a), x.under, x.over)
		}
		checkTwo(t, x.a, x.b)
		checkTwo(t, x.b, x.a)
	}
}

// checkTwo holds all that is told of two bindings against the chapter's words.
func checkTwo(t *testing.T, a, b []api.Slot) {
	t.Helper()
	givenA, givenB := slices.Clone(a), slices.Clone(b)
	if got, want := binding.Under(a, b), wantUnder(a, b); got != want {
		t.Fatalf("Under(%.80v, %.80v) = %v", a, b, got)
	}
	want, fits := wantUnion(a, b)
	if got := binding.Fits(a, b); got != fits {
		t.Fatalf("Fits(%.80v, %.80v) = %v", a, b, got)
	}
	got, ok := binding.Union(a, b)
	if !slices.Equal(got, want) || ok != fits {
		t.Fatalf("Union(%.80v, %.80v) = %.80v, %v; want %.80v, %v", a, b, got, ok, want, fits)
	}
	if ok && (!binding.Right(got) || !binding.Under(a, got) || !binding.Under(b, got)) {
		t.Fatalf("Union(%.80v, %.80v) = %.80v: it may not be, or they are not under it", a, b, got)
	}
	if got, want := binding.Less(a, b), wantLess(a, b); got != want {
		t.Fatalf("Less(%.80v, %.80v) = %v", a, b, got)
	}
	if got, want := binding.Same(a, b), maps.Equal(asMap(a), asMap(b)); got != want {
		t.Fatalf("Same(%.80v, %.80v) = %v", a, b, got)
	}
	if (binding.Key(a) == binding.Key(b)) != binding.Same(a, b) {
		t.Fatalf("%.80v and %.80v: the keys are %q and %q", a, b, binding.Key(a), binding.Key(b))
	}
	if !slices.Equal(a, givenA) || !slices.Equal(b, givenB) {
		t.Fatalf("%.80v and %.80v were changed to %.80v and %.80v", givenA, givenB, a, b)
	}
}

// 5.2, 5.5: each two bindings of a small world, and of those with all variables.
func TestEachTwo(t *testing.T) {
	for _, l := range [][][]api.Slot{small(), great(), append(great(), small()[:20]...)} {
		for _, a := range l {
			for _, b := range l {
				checkTwo(t, a, b)
			}
		}
	}
}

// 5.2, 5.5: bindings of one and two slots with values that are easily mistaken for each other.
func TestEachTwoValues(t *testing.T) {
	l := world([]int{2}, rising())
	l = append(l, world([]int{3}, rising())...)
	l = append(l, world([]int{0, 7}, rising()[8:14])...)
	for _, a := range l {
		for _, b := range l {
			checkTwo(t, a, b)
		}
	}
}

// 5.5: what is under two is under both together.
func TestUnderBothTogether(t *testing.T) {
	l := world([]int{0, 3, 7}, []api.Value{value.Int(1), value.Str("1")})
	for _, a := range l {
		for _, b := range l {
			union, ok := binding.Union(a, b)
			for _, x := range l {
				if ok && binding.Under(x, a) && binding.Under(x, b) && !binding.Under(x, union) {
					t.Fatalf("%v is under %v and %v, but not under %v", x, a, b, union)
				}
				if ok && (binding.Under(x, a) || binding.Under(x, b)) && !binding.Under(x, union) {
					t.Fatalf("%v is under %v or %v, but not under %v", x, a, b, union)
				}
			}
		}
	}
}

// 5.2: the slots whose variables are among some, in the binding's order, whatever the order of these.
func TestKeepWrittenOut(t *testing.T) {
	b := bind(is(0, 5), is(3, 6), is(7, 5))
	for _, x := range []struct {
		vars []int
		want []api.Slot
	}{
		{nil, nil},
		{[]int{}, nil},
		{[]int{0}, bind(is(0, 5))},
		{[]int{3, 5}, bind(is(3, 6))},
		{[]int{7, 0}, bind(is(0, 5), is(7, 5))},
		{[]int{7, 3, 0}, b},
		{[]int{3, 3}, bind(is(3, 6))},
		{[]int{7, 0, 7, 0, 7}, bind(is(0, 5), is(7, 5))},
		{[]int{1, 2, 4, 5, 6}, nil},
		{wrongVars(), nil},
		{append(wrongVars(), 3, 9, 0), bind(is(0, 5), is(3, 6))},
	} {
		given := slices.Clone(x.vars)
		if got := binding.Keep(b, x.vars...); !slices.Equal(got, x.want) {
			t.Errorf("Keep(%v, %v) = %v; want %v", b, x.vars, got, x.want)
		}
		if got := binding.Keep(nil, x.vars...); len(got) != 0 {
			t.Errorf("Keep(nil, %v) = %v", x.vars, got)
		}
		if !slices.Equal(given, x.vars) {
			t.Errorf("Keep changed %v to %v", given, x.vars)
		}
	}
	if got := binding.Keep(b); len(got) != 0 {
		t.Errorf("Keep(%v) = %v", b, got)
	}
}

// 5.2: each set of variables, in rising and in falling order, and twice.
func TestKeepEachSet(t *testing.T) {
	for _, b := range append(small(), great()...) {
		for set := range 256 {
			var vars []int
			m := asMap(b)
			for v := range api.MaxQuants {
				if set>>v&1 == 1 {
					vars = append(vars, v)
				} else {
					delete(m, v)
				}
			}
			want := asList(m)
			for _, l := range [][]int{vars, append(vars, vars...)} {
				for range 2 {
					if got := binding.Keep(b, l...); !slices.Equal(got, want) {
						t.Fatalf("Keep(%.80v, %v) = %.80v; want %.80v", b, l, got, want)
					}
					l = slices.Clone(l)
					slices.Reverse(l)
				}
			}
		}
	}
}

// 5.2: bindings written out in their order: fewer slots first, then the lesser variable, then the value that is ahead.
func TestLessWrittenOut(t *testing.T) {
	l := [][]api.Slot{
		nil,
		{is(0, -1)}, {is(0, 2)}, {is(0, 10)}, {at(0, value.Str("10"))}, {at(0, value.Str("2"))}, {at(0, value.Bool(false))}, {at(0, value.Bool(true))},
		{is(1, -5)}, {is(7, -9)}, {at(7, value.Str(""))},
		{is(0, 1), is(1, 9)}, {is(0, 1), is(2, 0)}, {is(0, 1), at(2, value.Str("\x00"))}, {is(0, 1), is(7, 0)},
		{is(0, 2), is(1, 0)}, {is(0, 2), is(2, -7)}, {at(0, value.Str("")), is(1, 0)}, {is(1, -1), is(2, -1)}, {is(6, 0), is(7, 0)},
		{is(0, 1), is(1, 1), is(2, 1)}, {is(0, 1), is(1, 1), is(2, 2)}, {is(0, 1), is(1, 1), is(3, 0)}, {is(0, 1), is(1, 2), is(2, 0)}, {is(5, 0), is(6, 0), is(7, 0)},
		great()[0],
	}
	for i, a := range l {
		for k, b := range l {
			if got := binding.Less(a, b); got != (i < k) {
				t.Errorf("Less(%.80v, %.80v) = %v", a, b, got)
			}
			if got := binding.Same(a, b); got != (i == k) {
				t.Errorf("Same(%.80v, %.80v) = %v", a, b, got)
			}
		}
	}
	if !binding.Same(nil, bind()) || binding.Less(nil, bind()) || binding.Less(bind(), nil) {
		t.Error("nil and the empty binding are not the same")
	}
	for i, x := range rising() {
		for k, y := range rising() {
			if got := binding.Less(bind(is(0, 1), at(4, x)), bind(is(0, 1), at(4, y))); got != (i < k) {
				t.Errorf("Less of %.40v and %.40v = %v", x, y, got)
			}
		}
	}
}

// 5.3: keys written out.
func TestKeyWrittenOut(t *testing.T) {
	for _, x := range []struct {
		b    []api.Slot
		want string
	}{
		{nil, ""},
		{bind(is(0, 1)), "\x10\x01\x80\x00\x00\x00\x00\x00\x00\x01"},
		{bind(is(7, -1)), "\x17\x01\x7f\xff\xff\xff\xff\xff\xff\xff"},
		{bind(at(3, value.Str(""))), "\x13\x02\x00\x01"},
		{bind(at(4, value.Str("a\x00b"))), "\x14\x02a\x00\xffb\x00\x01"},
		{bind(at(5, value.Bool(true))), "\x15\x03\x01"},
		{bind(at(6, value.Bool(false))), "\x16\x03\x00"},
		{bind(at(1, value.Bool(true)), at(2, value.Str("\x10")), is(6, 0)), "\x11\x03\x01\x12\x02\x10\x00\x01\x16\x01\x80\x00\x00\x00\x00\x00\x00\x00"},
	} {
		if got := binding.Key(x.b); got != x.want {
			t.Errorf("Key(%v) = %q; want %q", x.b, got, x.want)
		}
	}
}

// 5.3, 5.5: the keys of many bindings, by the chapter's words; no two have one.
func TestKeys(t *testing.T) {
	l := append(small(), great()...)
	for v := range api.MaxQuants {
		l = append(l, world([]int{v}, rising())...)
	}
	// Texts that look like the beginning of a next slot.
	texts := []api.Value{value.Str(""), value.Str("\x00"), value.Str("\x00\x01"), value.Str("\x00\x01\x11\x03\x00"), value.Str("\x11"), value.Str("\x11\x03\x00"), value.Bool(false)}
	l = append(l, world([]int{0, 1, 2}, texts)...)
	of := map[string][]api.Slot{}
	for _, b := range l {
		k := binding.Key(b)
		if k != wantKey(b) {
			t.Fatalf("Key(%.80v) = %.80q; want %.80q", b, k, wantKey(b))
		}
		if other, ok := of[k]; ok && !slices.Equal(other, b) {
			t.Fatalf("%.80v and %.80v have one key", b, other)
		}
		of[k] = b
	}
}

// 5.3: those that have one slot less, written out.
func TestUnder1WrittenOut(t *testing.T) {
	for _, x := range []struct {
		b    []api.Slot
		want [][]api.Slot
	}{
		{nil, nil},
		{bind(), nil},
		{bind(is(4, 5)), [][]api.Slot{nil}},
		{bind(is(0, 2), is(3, 1)), [][]api.Slot{{is(0, 2)}, {is(3, 1)}}},
		{bind(is(0, 9), is(3, 1)), [][]api.Slot{{is(0, 9)}, {is(3, 1)}}},
		{bind(is(1, 3), is(2, 2), is(7, 1)), [][]api.Slot{{is(1, 3), is(2, 2)}, {is(1, 3), is(7, 1)}, {is(2, 2), is(7, 1)}}},
	} {
		if got := binding.Under1(x.b); !equal(got, x.want) {
			t.Errorf("Under1(%v) = %v; want %v", x.b, got, x.want)
		}
	}
}

// 5.3: those of all bindings of a small world, and of the greatest ones.
func TestUnder1(t *testing.T) {
	for _, b := range append(small(), great()...) {
		given := slices.Clone(b)
		got := binding.Under1(b)
		if want := wantUnder1(b); !equal(got, want) {
			t.Fatalf("Under1(%.80v) = %.80v; want %.80v", b, got, want)
		}
		if !slices.Equal(b, given) {
			t.Fatalf("Under1 changed %.80v to %.80v", given, b)
		}
	}
}

// 5.4: the greatest ones under a binding, written out.
func TestMostWrittenOut(t *testing.T) {
	x, y, z := is(0, 5), is(3, 6), is(7, 7)
	other := is(0, 4)
	for _, c := range []struct {
		l    [][]api.Slot
		b    []api.Slot
		want [][]api.Slot
	}{
		{nil, nil, nil},
		{nil, bind(x, y), nil},
		{[][]api.Slot{nil}, nil, [][]api.Slot{nil}},
		{[][]api.Slot{nil, {}, nil}, bind(x), [][]api.Slot{nil}},
		{[][]api.Slot{{x}}, nil, nil},
		{[][]api.Slot{{x}, nil}, nil, [][]api.Slot{nil}},
		{[][]api.Slot{{x}}, bind(x), [][]api.Slot{{x}}},
		{[][]api.Slot{{x}, {x}, {x}}, bind(x), [][]api.Slot{{x}}},
		{[][]api.Slot{{other}, {other, y}}, bind(x, y), nil},
		{[][]api.Slot{{y}, nil, {x}}, bind(x, y), [][]api.Slot{{x}, {y}}},
		{[][]api.Slot{{x, y}, {y}, nil, {x}, {x, y}}, bind(x, y), [][]api.Slot{{x, y}}},
		{[][]api.Slot{{x, y}, {y}, {z}}, bind(x, y, z), [][]api.Slot{{z}, {x, y}}},
		{[][]api.Slot{{x, y}, {y}, {z}, {x, y}, {z}, {other, y, z}}, bind(x, y, z), [][]api.Slot{{z}, {x, y}}},
		{[][]api.Slot{{y, z}, {x, z}, {x, y}, {x}, {y}, {z}}, bind(x, y, z), [][]api.Slot{{x, y}, {x, z}, {y, z}}},
		{[][]api.Slot{{x, y, z}, {y, z}, {x, z}, {x}}, bind(x, y), [][]api.Slot{{x}}},
		{[][]api.Slot{{x, y, z}, {y, z}, {x, z}, {x}}, bind(x, y, z), [][]api.Slot{{x, y, z}}},
	} {
		if got := binding.Most(c.l, c.b); !equal(got, c.want) {
			t.Errorf("Most(%v, %v) = %v; want %v", c.l, c.b, got, c.want)
		}
		checkMost(t, c.l, c.b)
	}
}

// checkMost holds Most against the chapter's words; what it is given is as it was.
func checkMost(t *testing.T, l [][]api.Slot, b []api.Slot) {
	t.Helper()
	givenL, givenB := copied(l), slices.Clone(b)
	got := binding.Most(l, b)
	if want := wantMost(l, b); !equal(got, want) {
		t.Fatalf("Most(%.200v, %.80v) = %.80v; want %.80v", l, b, got, want)
	}
	if !equal(l, givenL) || !slices.Equal(b, givenB) {
		t.Fatalf("Most changed %.80v, %.80v to %.80v, %.80v", givenL, givenB, l, b)
	}
}

// 5.4: all bindings of a small world, and many lists of some of them.
func TestMost(t *testing.T) {
	r := rand.New(rand.NewSource(6))
	all := small()
	for _, b := range all {
		checkMost(t, all, b)
		for range 20 {
			var l [][]api.Slot
			for range r.Intn(12) {
				l = append(l, all[r.Intn(len(all))])
				// Lists of those that are under it alone are rare otherwise.
				l = append(l, binding.Keep(b, r.Intn(8), r.Intn(8), r.Intn(8)))
			}
			checkMost(t, l, b)
		}
	}
	full := great()[0]
	for range 500 {
		var l [][]api.Slot
		for range 1 + r.Intn(30) {
			l = append(l, binding.Keep(full, r.Perm(8)[:r.Intn(8)]...))
		}
		checkMost(t, l, full)
	}
	checkMost(t, great(), full)
}

// spoil writes over all that a list of slots has room for.
func spoil(b []api.Slot) {
	b = b[:cap(b)]
	for i := range b {
		b[i] = is(99, 99)
	}
}

// R3: an answer shares no memory with what was handed in, nor two lists of one answer with each other.
func TestNewMemory(t *testing.T) {
	b := bind(is(0, 1), is(3, 2), is(7, 3))
	l := [][]api.Slot{b[:2], b[1:], b[:1], b[2:]}
	same := func(what string) {
		t.Helper()
		if !slices.Equal(b, bind(is(0, 1), is(3, 2), is(7, 3))) {
			t.Fatalf("%s shares memory with what it was given", what)
		}
	}
	of, _ := binding.Of(b...)
	spoil(of)
	same("Of")
	for _, other := range [][]api.Slot{nil, b, b[:1]} {
		for _, x := range [][2][]api.Slot{{b, other}, {other, b}, {b[:2], other}, {other, b[:2]}} {
			union, _ := binding.Union(x[0], x[1])
			spoil(union)
			same("Union")
		}
	}
	for _, vars := range [][]int{{0, 3, 7}, {0}, {0, 3}, {7}} {
		spoil(binding.Keep(b, vars...))
		same("Keep")
	}
	for name, made := range map[string]func() [][]api.Slot{
		"Under1": func() [][]api.Slot { return binding.Under1(b) },
		"Most":   func() [][]api.Slot { return binding.Most(l, b) },
		"Most of one": func() [][]api.Slot {
			return binding.Most([][]api.Slot{b, b}, b)
		},
	} {
		for i := range made() {
			got, want := made(), copied(made())
			spoil(got[i])
			same(name)
			want[i] = got[i]
			if !equal(got, want) {
				t.Fatalf("%s: two lists of one answer share memory", name)
			}
		}
	}
}

// R1: of lists that may not be nothing is promised, but that each call ends; with a false there is nothing beside it.
func TestOthersEnd(t *testing.T) {
	l := append(wrong(), bind(is(1, 1), is(0, 1)), bind(is(2, 1), is(2, 1), is(2, 2)), slices.Repeat(bind(is(5, 1), is(3, 2)), 20), nil, great()[0])
	for _, a := range l {
		binding.Key(a)
		binding.Under1(a)
		for _, v := range wrongVars() {
			binding.Get(a, v)
			binding.Keep(a, v, 0, v)
		}
		binding.Most(l, a)
		for _, b := range l {
			binding.Under(a, b)
			binding.Less(a, b)
			binding.Same(a, b)
			union, ok := binding.Union(a, b)
			if ok != binding.Fits(a, b) || !ok && len(union) != 0 {
				t.Fatalf("Union(%.80v, %.80v) = %.80v, %v", a, b, union, ok)
			}
		}
	}
	// All that are under so long a list, each with one slot less, would be too many to hold.
	binding.Under1(slices.Repeat(bind(is(0, 1)), 1<<20))
}

// slotsOf reads slots of bytes: variables that there are, and now and then one that there is not, with values of each kind.
func slotsOf(b []byte) []api.Slot {
	var l []api.Slot
	for ; len(b) >= 2; b = b[2:] {
		v := int(b[0] % 8)
		if b[0] >= 250 {
			v = int(b[0]) - 258
		}
		x := value.Int(int64(b[1]) / 64)
		switch b[1] % 4 {
		case 1:
			x = value.Str(strings.Repeat("\x00", int(b[1]/64)))
		case 2:
			x = value.Bool(b[1] >= 128)
		case 3:
			x = value.Str(string(b[1:2]))
		}
		l = append(l, at(v, x))
	}
	return l
}

func FuzzBindings(f *testing.F) {
	f.Add([]byte("\x00\x00\x01\x01\x02\x02"), []byte("\x02\x02\x01\x01"), []byte("\x07\x03"))
	f.Add([]byte("\x00\x00\x00\x40"), []byte(""), []byte("\xff\x00"))
	f.Fuzz(func(t *testing.T, r, s, w []byte) {
		var l [][]api.Slot
		for _, b := range [][]byte{r, s, w} {
			slots := slotsOf(b)
			checkOf(t, slots...)
			if x, ok := binding.Of(slots...); ok {
				l = append(l, x)
				l = append(l, binding.Under1(x)...)
			}
		}
		for _, a := range l {
			if !equal(binding.Under1(a), wantUnder1(a)) || binding.Key(a) != wantKey(a) {
				t.Fatalf("%v: Under1 %v, Key %q", a, binding.Under1(a), binding.Key(a))
			}
			checkMost(t, l, a)
			for _, b := range l {
				checkTwo(t, a, b)
			}
		}
	})
}
