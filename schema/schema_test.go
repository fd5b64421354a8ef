package schema_test

import (
	"math"
	"math/rand"
	"regexp"
	"slices"
	"strings"
	"testing"

	"proctor/api"
	"proctor/schema"
)

// chapterWords are the words, as the chapter has them.
const chapterWords = "accept, also, and, bool, do, event, exists, false, forall, free, if, int, next, not, on, or, qea, skip, start, string, to, true"

// long is a name of as many bytes as one may have.
var long = strings.Repeat("x", api.MaxName)

// spelt says anew how a name is spelt.
var spelt = regexp.MustCompile(`\A[A-Za-z_][A-Za-z0-9_]{0,31}\z`)

// allWords are the words one by one.
func allWords() []string { return strings.Split(chapterWords, ", ") }

// decl is a declaration of a name with kinds.
func decl(name string, types ...int) api.Decl { return api.Decl{Name: name, Types: types} }

// many are declarations, as many as asked for, each with a name of its own.
func many(n int) []api.Decl {
	var l []api.Decl
	for i := range n {
		l = append(l, decl("e"+strings.Repeat("_", i%8)+string(rune('A'+i/8)), i%3+1))
	}
	return l
}

// with is a schema in which other declarations stand at the places from one on.
func with(l []api.Decl, at int, others ...api.Decl) []api.Decl {
	changed := clone(l)
	copy(changed[at:], others)
	return changed
}

// clone is a schema of new memory.
func clone(l []api.Decl) []api.Decl {
	var c []api.Decl
	for _, d := range l {
		c = append(c, api.Decl{Name: d.Name, Types: slices.Clone(d.Types)})
	}
	return c
}

// checkName holds what is told of a text against the chapter's words, said anew.
func checkName(t *testing.T, s string) {
	t.Helper()
	isSpelt, isWord := spelt.MatchString(s), slices.Contains(allWords(), s)
	if schema.Spelt(s) != isSpelt {
		t.Fatalf("Spelt(%.60q) = %v", s, !isSpelt)
	}
	if schema.Word(s) != isWord {
		t.Fatalf("Word(%.60q) = %v", s, !isWord)
	}
	if isName := isSpelt && !isWord && s != "_"; schema.Name(s) != isName {
		t.Fatalf("Name(%.60q) = %v", s, !isName)
	}
}

// 7.1: what is written out: texts that are names, that are spelt so but are none, and that are not spelt so.
func TestNames(t *testing.T) {
	for _, x := range []struct {
		s          string
		spelt, nam bool
	}{
		{"", false, false},
		{"a", true, true},
		{"Z", true, true},
		{"_", true, false},
		{"__", true, true},
		{"___", true, true},
		{"_0", true, true},
		{"_a", true, true},
		{"a_", true, true},
		{"a_b", true, true},
		{"aZ09_", true, true},
		{"z9", true, true},
		{"0", false, false},
		{"9", false, false},
		{"0a", false, false},
		{"9_", false, false},
		{"a-b", false, false},
		{"a b", false, false},
		{" a", false, false},
		{"a ", false, false},
		{"a\n", false, false},
		{"\na", false, false},
		{"a.b", false, false},
		{"a,b", false, false},
		{"-", false, false},
		{"$a", false, false},
		{"a\x00", false, false},
		{"\x00", false, false},
		{"\x80", false, false},
		{"a\x80", false, false},
		{"\xffa", false, false},
		{"a\xffa", false, false},
		{"\u00e9", false, false},
		{"a\u00e9", false, false},
		{"\u0661", false, false},
		{"a\u0661", false, false},
		{"\uff21", false, false},
		{"\u212a", false, false},
		{"\u017f", false, false},
		{"if", true, false},
		{"If", true, true},
		{"to", true, false},
		{"toto", true, true},
		{"and or", false, false},
		{"qea_", true, true},
		{"string1", true, true},
	} {
		if schema.Spelt(x.s) != x.spelt || schema.Name(x.s) != x.nam {
			t.Errorf("Spelt(%q), Name(%q) = %v, %v", x.s, x.s, schema.Spelt(x.s), schema.Name(x.s))
		}
		checkName(t, x.s)
	}
}

// 7.1: texts of 32 bytes and of 33, by which byte stands at each end and between.
func TestLongNames(t *testing.T) {
	for _, x := range []struct {
		s  string
		is bool
	}{
		{long, true},
		{long[1:], true},
		{long + "x", false},
		{long + "_", false},
		{long + "9", false},
		{long + long, false},
		{strings.Repeat("_", 32), true},
		{strings.Repeat("_", 33), false},
		{strings.Repeat("9", 32), false},
		{"_" + strings.Repeat("9", 31), true},
		{"_" + strings.Repeat("9", 32), false},
		{"9" + long[1:], false},
		{"A" + long[1:], true},
		{long[1:] + "Z", true},
		{long[1:] + "0", true},
		{long[1:] + "_", true},
		{long[1:] + "-", false},
		{long[1:] + "\x80", false},
		{"\x80" + long[1:], false},
		{long[:16] + "\xe4" + long[17:], false},
		{long[:16] + "0" + long[17:], true},
		{long[2:] + "\u00e9", false},
		{long[1:] + "\u00e9", false},
		{strings.Repeat("\u00e9", 16), false},
		{strings.Repeat("\u00e9", 32), false},
		{strings.Repeat("x", 1<<20), false},
	} {
		if schema.Spelt(x.s) != x.is || schema.Name(x.s) != x.is {
			t.Errorf("of %.60q, %d bytes: Spelt %v, Name %v", x.s, len(x.s), schema.Spelt(x.s), schema.Name(x.s))
		}
		checkName(t, x.s)
	}
	for size := range 70 {
		checkName(t, strings.Repeat("a", size))
		checkName(t, strings.Repeat("_", size))
		checkName(t, strings.Repeat("7", size))
	}
}

// 7.1: each byte: alone, first, last, between, in a text of 32 bytes, and beyond one.
func TestEachByte(t *testing.T) {
	for c := range 256 {
		b := string([]byte{byte(c)})
		for _, s := range []string{b, b + "a", "a" + b, "a" + b + "a", b + b, "_" + b, b + "_", b + "0", "0" + b, b + long[1:], long[1:] + b, long + b, b + long} {
			checkName(t, s)
		}
	}
}

// 7.1: all texts of a few bytes of each kind.
func TestShortTexts(t *testing.T) {
	bytes := []byte("aZ_0-\x80")
	texts := []string{""}
	for range 5 {
		var longer []string
		for _, s := range texts {
			checkName(t, s)
			for _, c := range bytes {
				longer = append(longer, s+string([]byte{c}))
			}
		}
		texts = longer
	}
}

// 7.1: each word is spelt as a name, and none; what is nearly one is a name: another case, a byte more, a byte less.
func TestWords(t *testing.T) {
	words := allWords()
	if len(words) != 22 {
		t.Fatalf("%d words", len(words))
	}
	for _, w := range words {
		if !schema.Word(w) || !schema.Spelt(w) || schema.Name(w) {
			t.Errorf("the word %s: Word %v, Spelt %v, Name %v", w, schema.Word(w), schema.Spelt(w), schema.Name(w))
		}
		near := []string{strings.ToUpper(w), strings.ToUpper(w[:1]) + w[1:], w[:len(w)-1] + strings.ToUpper(w[len(w)-1:])}
		near = append(near, w+"_", "_"+w, w+"0", w+"x", "x"+w, w+w)
		for _, s := range near {
			if schema.Word(s) || !schema.Spelt(s) || !schema.Name(s) {
				t.Errorf("%s, nearly a word: Word %v, Spelt %v, Name %v", s, schema.Word(s), schema.Spelt(s), schema.Name(s))
			}
		}
		for _, s := range append(near, w[1:], w[:len(w)-1], w+" ", " "+w, w+"\x00", w+",", "9"+w) {
			checkName(t, s)
		}
	}
	for _, s := range []string{"", "_", ",", " ", "or, qea", chapterWords, "while", "else", "accepts", "quant", "number", "text", "symbol", "state", "var", "in", "any", "all", "some"} {
		if schema.Word(s) {
			t.Errorf("%q is a word", s)
		}
	}
}

// wantCheck says anew what is wrong with a schema, and where.
func wantCheck(l []api.Decl) (int, api.Errno) {
	if len(l) > 32 {
		return 32, api.ErrBound
	}
	stood := map[string]bool{}
	for i, d := range l {
		if !spelt.MatchString(d.Name) || d.Name == "_" || slices.Contains(allWords(), d.Name) {
			return i, api.ErrName
		}
		if stood[d.Name] {
			return i, api.ErrTwice
		}
		stood[d.Name] = true
		if len(d.Types) > 8 {
			return i, api.ErrBound
		}
		for _, k := range d.Types {
			if k != 1 && k != 2 && k != 3 {
				return i, api.ErrType
			}
		}
	}
	return -1, api.OK
}

// wantFind says anew where a name is found: it looks from the end on.
func wantFind(l []api.Decl, name string) (int, bool) {
	at, ok := 0, false
	for i := len(l) - 1; i >= 0; i-- {
		if l[i].Name == name {
			at, ok = i, true
		}
	}
	return at, ok
}

// wantText says anew what a declaration's text is.
func wantText(d api.Decl) string {
	s := []byte(d.Name + "(")
	for i, k := range d.Types {
		if i > 0 {
			s = append(s, ", "...)
		}
		s = append(s, map[int]string{1: "int", 2: "string", 3: "bool"}[k]...)
	}
	return string(append(s, ')'))
}

// wantSame says anew whether two schemas are the same.
func wantSame(a, b []api.Decl) bool {
	if len(a) != len(b) {
		return false
	}
	for i := range a {
		if a[i].Name != b[i].Name || len(a[i].Types) != len(b[i].Types) {
			return false
		}
		for j := range a[i].Types {
			if a[i].Types[j] != b[i].Types[j] {
				return false
			}
		}
	}
	return true
}

// checkSchema holds what is told of a schema against the chapter's words, said anew; and that the schema stays as it was.
func checkSchema(t *testing.T, l []api.Decl) {
	t.Helper()
	was := clone(l)
	at, e := wantCheck(l)
	for range 2 {
		if i, got := schema.Check(l); i != at || got != e {
			t.Fatalf("Check(%.300v) = %d, %v; want %d, %v", l, i, got, at, e)
		}
	}
	for _, d := range l {
		i, ok := schema.Find(l, d.Name)
		if want, _ := wantFind(l, d.Name); i != want || !ok {
			t.Fatalf("Find(%.300v, %.60q) = %d, %v; want %d", l, d.Name, i, ok, want)
		}
		if s := schema.Text(d); s != wantText(d) {
			t.Fatalf("Text(%.300v) = %.300q; want %.300q", d, s, wantText(d))
		}
	}
	if !schema.Same(l, was) || !schema.Same(was, l) || !schema.Same(l, l) || !wantSame(l, was) {
		t.Fatalf("%.300v is not the same as it was, %.300v", l, was)
	}
}

// checkCheck holds what is wrong with a schema against what is written out; and that the words said anew tell it, too.
func checkCheck(t *testing.T, l []api.Decl, at int, e api.Errno) {
	t.Helper()
	if i, got := schema.Check(l); i != at || got != e {
		t.Errorf("Check(%.300v) = %d, %v; want %d, %v", l, i, got, at, e)
	}
	checkSchema(t, l)
}

// 7.2: schemas with which nothing is wrong: with nothing in them, with declarations of each size, and with 32 of them.
func TestNothingWrong(t *testing.T) {
	for _, l := range [][]api.Decl{
		nil,
		{},
		{decl("a")},
		{decl("a", 1)},
		{decl("a", 2, 1, 3)},
		{decl("a", 1, 1, 1, 1, 1, 1, 1, 1)},
		{decl("a", 3, 2, 1, 3, 2, 1, 3, 2)},
		{decl(long, 1)},
		{decl("a"), decl("b"), decl("c")},
		{decl("a", 1), decl("A", 1), decl("_a", 1), decl("a_", 1), decl("aa", 1)},
		{decl("__", 1), decl("_0")},
		{decl("If"), decl("Qea"), decl("or_")},
		{decl(long), decl(long[1:]), decl(long[2:] + "yx")},
		many(31),
		many(32),
	} {
		checkCheck(t, l, -1, api.OK)
	}
}

// 7.2: each wrong alone, at the first place, between, and at the last.
func TestEachWrong(t *testing.T) {
	for _, x := range []struct {
		d api.Decl
		e api.Errno
	}{
		{decl(""), api.ErrName},
		{decl("_", 1), api.ErrName},
		{decl("9"), api.ErrName},
		{decl("a-b"), api.ErrName},
		{decl("a b"), api.ErrName},
		{decl("\x80"), api.ErrName},
		{decl("a\xff", 1, 2), api.ErrName},
		{decl(long + "x"), api.ErrName},
		{decl("if"), api.ErrName},
		{decl("true", 3), api.ErrName},
		{decl("string", 2), api.ErrName},
		{decl("x", 1, 1, 1, 1, 1, 1, 1, 1, 1), api.ErrBound},
		{decl("x", 3, 2, 1, 3, 2, 1, 3, 2, 1, 3), api.ErrBound},
		{decl("x", make([]int, 1<<16)...), api.ErrBound},
		{decl("x", 0), api.ErrType},
		{decl("x", 4), api.ErrType},
		{decl("x", -1), api.ErrType},
		{decl("x", math.MaxInt), api.ErrType},
		{decl("x", math.MinInt), api.ErrType},
		{decl("x", 1<<32+1), api.ErrType},
		{decl("x", 257), api.ErrType},
		{decl("x", 1, 4), api.ErrType},
		{decl("x", 4, 1), api.ErrType},
		{decl("x", 1, 0, 1), api.ErrType},
		{decl("x", 1, 2, 3, 1, 2, 3, 1, 0), api.ErrType},
		{decl("x", 0, 2, 3, 1, 2, 3, 1, 2), api.ErrType},
		{decl("x", 17, 17, 17, 17, 17, 17, 17, 17), api.ErrType},
	} {
		checkCheck(t, []api.Decl{x.d}, 0, x.e)
		for _, size := range []int{2, 7, 32} {
			for _, at := range []int{0, 1, size / 2, size - 1} {
				checkCheck(t, with(many(size), at, x.d), at, x.e)
			}
		}
	}
}

// 7.2: a name that stands ahead, whatever the kinds, next to it or far from it; one in another case does not.
func TestErrTwice(t *testing.T) {
	a := decl("a", 1, 3)
	for _, x := range []struct {
		l  []api.Decl
		at int
	}{
		{[]api.Decl{a, a}, 1},
		{[]api.Decl{a, decl("a")}, 1},
		{[]api.Decl{a, decl("b"), decl("a", 2)}, 2},
		{[]api.Decl{decl("b"), a, a}, 2},
		{[]api.Decl{decl("b"), a, decl("b"), a}, 2},
		{[]api.Decl{a, a, a}, 1},
		{[]api.Decl{decl("A"), a, decl("B"), decl("b"), decl("a")}, 4},
		{[]api.Decl{decl(long), decl(long[1:]), decl(long)}, 2},
		{with(many(32), 31, many(1)[0]), 31},
		{with(many(32), 31, many(31)[30]), 31},
		{with(many(32), 1, many(1)[0]), 1},
	} {
		checkCheck(t, x.l, x.at, api.ErrTwice)
	}
	checkCheck(t, []api.Decl{a, decl("A", 1, 3)}, -1, api.OK)
}

// 7.2: more than 32 declarations are told of the place 32, ahead of whatever else is wrong.
func TestTooManyDecls(t *testing.T) {
	bad := decl("do", 9, 9, 9, 9, 9, 9, 9, 9, 9)
	for _, l := range [][]api.Decl{
		many(33),
		many(34),
		many(64),
		make([]api.Decl, 33),
		make([]api.Decl, 1000),
		with(many(33), 0, bad),
		with(many(33), 31, bad),
		with(many(33), 32, bad),
		with(many(33), 32, many(1)[0]),
		with(many(33), 1, many(1)[0]),
		with(many(40), 39, decl("x", 4)),
	} {
		checkCheck(t, l, 32, api.ErrBound)
	}
	checkCheck(t, with(many(32), 0, bad), 0, api.ErrName)
	checkCheck(t, make([]api.Decl, 32), 0, api.ErrName)
}

// 7.2: which is told, where a declaration has several wrongs, and where several declarations have some.
func TestWhichIsTold(t *testing.T) {
	nine := []int{4, 1, 1, 1, 1, 1, 1, 1, 1}
	a, b := decl("a", 1), decl("b", 2)
	for _, x := range []struct {
		l  []api.Decl
		at int
		e  api.Errno
	}{
		{[]api.Decl{decl("do", nine...)}, 0, api.ErrName},
		{[]api.Decl{decl("", 0)}, 0, api.ErrName},
		{[]api.Decl{decl("do"), decl("do")}, 0, api.ErrName},
		{[]api.Decl{a, decl("", 7), decl("")}, 1, api.ErrName},
		{[]api.Decl{a, decl("a", nine...)}, 1, api.ErrTwice},
		{[]api.Decl{a, decl("a", 4)}, 1, api.ErrTwice},
		{[]api.Decl{a, decl("a", nine[1:]...), b}, 1, api.ErrTwice},
		{[]api.Decl{decl("a", nine...)}, 0, api.ErrBound},
		{[]api.Decl{decl("a", 1, 1, 1, 1, 1, 1, 1, 1, 4)}, 0, api.ErrBound},
		{[]api.Decl{decl("a", nine[:8]...)}, 0, api.ErrType},
		{[]api.Decl{decl("a", 4), decl("do")}, 0, api.ErrType},
		{[]api.Decl{decl("a", 4), decl("a", 4)}, 0, api.ErrType},
		{[]api.Decl{decl("a", nine...), decl("a"), decl("")}, 0, api.ErrBound},
		{[]api.Decl{a, a, decl("")}, 1, api.ErrTwice},
		{[]api.Decl{a, b, decl("c", 0), decl("if"), a}, 2, api.ErrType},
		{[]api.Decl{a, b, decl("c", nine...), decl("d", 0)}, 2, api.ErrBound},
		{[]api.Decl{a, b, decl("d", 0), decl("c", nine...)}, 2, api.ErrType},
		{[]api.Decl{a, b, decl("9"), a}, 2, api.ErrName},
		{[]api.Decl{a, b, a, decl("9")}, 2, api.ErrTwice},
		{[]api.Decl{a, decl("_", 0), decl("a", 0)}, 1, api.ErrName},
	} {
		checkCheck(t, x.l, x.at, x.e)
	}
}

// some are declarations of each sort: right ones, and such as have one wrong, or several.
func some() []api.Decl {
	return []api.Decl{
		decl("a"), decl("a", 1), decl("a", 0), decl("a", 1, 1, 1, 1, 1, 1, 1, 1, 1), decl("b", 3, 2), decl("b", 2, 3), decl("B", 1, 1, 1, 1, 1, 1, 1, 1),
		decl(""), decl("", 1), decl("_"), decl("not", 4), decl("c", 4, 4, 4, 4, 4, 4, 4, 4, 4), decl("c", 3, 3, 3, 3, 3, 3, 3, 4),
	}
}

// 7.2, 7.3: all schemas of up to three declarations of each sort.
func TestShortSchemas(t *testing.T) {
	checkSchema(t, nil)
	for _, a := range some() {
		checkSchema(t, []api.Decl{a})
		for _, b := range some() {
			checkSchema(t, []api.Decl{a, b})
			checkPair(t, []api.Decl{a}, []api.Decl{b})
			for _, c := range some() {
				checkSchema(t, []api.Decl{a, b, c})
				checkPair(t, []api.Decl{a}, []api.Decl{b, c})
				checkPair(t, []api.Decl{a, b}, []api.Decl{c, b})
				checkPair(t, []api.Decl{a, b}, []api.Decl{a, c})
			}
		}
	}
}

// checkPair holds whether two schemas are the same against the chapter's words, said anew.
func checkPair(t *testing.T, a, b []api.Decl) {
	t.Helper()
	want := wantSame(a, b)
	if schema.Same(a, b) != want || schema.Same(b, a) != want {
		t.Fatalf("Same(%.300v, %.300v) = %v, the other way round %v; want %v", a, b, schema.Same(a, b), schema.Same(b, a), want)
	}
}

// 7.2: where a name is found: alone, the first of several, the last place; and where it is not.
func TestFind(t *testing.T) {
	a, b := decl("a", 1), decl("b")
	for _, x := range []struct {
		l    []api.Decl
		name string
		at   int
		ok   bool
	}{
		{nil, "a", 0, false},
		{nil, "", 0, false},
		{[]api.Decl{}, "a", 0, false},
		{[]api.Decl{a}, "a", 0, true},
		{[]api.Decl{a}, "b", 0, false},
		{[]api.Decl{a}, "A", 0, false},
		{[]api.Decl{a}, "", 0, false},
		{[]api.Decl{a}, "aa", 0, false},
		{[]api.Decl{a}, "a\x00", 0, false},
		{[]api.Decl{a}, "a(int)", 0, false},
		{[]api.Decl{decl("aa")}, "a", 0, false},
		{[]api.Decl{b, a}, "a", 1, true},
		{[]api.Decl{b, a}, "b", 0, true},
		{[]api.Decl{b, a, a, decl("a")}, "a", 1, true},
		{[]api.Decl{a, b, a}, "a", 0, true},
		{[]api.Decl{a, b, a, b}, "b", 1, true},
		{[]api.Decl{a, b, decl("c"), decl("d"), decl("c")}, "c", 2, true},
		{[]api.Decl{a, b, decl("c"), decl("d")}, "e", 0, false},
		{[]api.Decl{a, decl(""), decl("do"), decl(long + long)}, "", 1, true},
		{[]api.Decl{a, decl(""), decl("do"), decl(long + long)}, "do", 2, true},
		{[]api.Decl{a, decl(""), decl("do"), decl(long + long)}, long + long, 3, true},
		{[]api.Decl{a, decl(""), decl("do"), decl(long + long)}, long, 0, false},
		{many(32), many(32)[31].Name, 31, true},
		{many(32), many(33)[32].Name, 0, false},
		{many(33), many(33)[32].Name, 32, true},
	} {
		at, ok := schema.Find(x.l, x.name)
		if at != x.at || ok != x.ok {
			t.Errorf("Find(%.300v, %q) = %d, %v; want %d, %v", x.l, x.name, at, ok, x.at, x.ok)
		}
		if want, found := wantFind(x.l, x.name); want != at || found != ok {
			t.Errorf("Find(%.300v, %q), said anew, is %d, %v", x.l, x.name, want, found)
		}
	}
}

// 7.2: whether two schemas are the same; nil and the empty list are.
func TestSame(t *testing.T) {
	a, b := decl("a", 1, 2), decl("b", 3)
	for _, x := range []struct {
		a, b []api.Decl
		same bool
	}{
		{nil, nil, true},
		{nil, []api.Decl{}, true},
		{[]api.Decl{decl("a")}, []api.Decl{{Name: "a", Types: []int{}}}, true},
		{[]api.Decl{a}, []api.Decl{decl("a", 1, 2)}, true},
		{[]api.Decl{a, b}, []api.Decl{decl("a", 1, 2), decl("b", 3)}, true},
		{[]api.Decl{decl("", 9, 0)}, []api.Decl{decl("", 9, 0)}, true},
		{[]api.Decl{a, a}, []api.Decl{a, a}, true},
		{many(33), many(33), true},
		{nil, []api.Decl{a}, false},
		{nil, []api.Decl{{}}, false},
		{[]api.Decl{a}, []api.Decl{a, b}, false},
		{[]api.Decl{b}, []api.Decl{a, b}, false},
		{[]api.Decl{a, a}, []api.Decl{a}, false},
		{[]api.Decl{a, b}, []api.Decl{b, a}, false},
		{[]api.Decl{a, b}, []api.Decl{a, a}, false},
		{[]api.Decl{a}, []api.Decl{decl("a", 2, 1)}, false},
		{[]api.Decl{a}, []api.Decl{decl("a", 1, 3)}, false},
		{[]api.Decl{a}, []api.Decl{decl("a", 3, 2)}, false},
		{[]api.Decl{a}, []api.Decl{decl("a", 1)}, false},
		{[]api.Decl{a}, []api.Decl{decl("a", 2)}, false},
		{[]api.Decl{a}, []api.Decl{decl("a", 1, 2, 2)}, false},
		{[]api.Decl{a}, []api.Decl{decl("a", 1, 2, 0)}, false},
		{[]api.Decl{a}, []api.Decl{decl("a")}, false},
		{[]api.Decl{a}, []api.Decl{decl("A", 1, 2)}, false},
		{[]api.Decl{a}, []api.Decl{decl("aa", 1, 2)}, false},
		{[]api.Decl{a}, []api.Decl{decl("", 1, 2)}, false},
		{[]api.Decl{decl("a", 4)}, []api.Decl{decl("a", 5)}, false},
		{[]api.Decl{decl("a", 1<<32)}, []api.Decl{decl("a", 0)}, false},
		{[]api.Decl{decl("a"), decl("b", 1)}, []api.Decl{decl("a", 1), decl("b")}, false},
		{[]api.Decl{a, b}, []api.Decl{a, decl("b", 1)}, false},
		{[]api.Decl{a, b}, []api.Decl{a, decl("c", 3)}, false},
		{many(32), many(33), false},
		{many(33), with(many(33), 32, b), false},
	} {
		if schema.Same(x.a, x.b) != x.same || schema.Same(x.b, x.a) != x.same {
			t.Errorf("Same(%.300v, %.300v) = %v, the other way round %v", x.a, x.b, schema.Same(x.a, x.b), schema.Same(x.b, x.a))
		}
		checkPair(t, x.a, x.b)
	}
}

// 7.3: the texts of declarations with no kind, with one, with several, and with kinds that are none; whatever the name is.
func TestText(t *testing.T) {
	for _, x := range []struct {
		d    api.Decl
		text string
	}{
		{decl("open", 2, 1), "open(string, int)"},
		{decl("a"), "a()"},
		{api.Decl{Name: "a", Types: []int{}}, "a()"},
		{decl("a", 1), "a(int)"},
		{decl("a", 2), "a(string)"},
		{decl("a", 3), "a(bool)"},
		{decl("a", 1, 3), "a(int, bool)"},
		{decl("a", 3, 1), "a(bool, int)"},
		{decl("a", 1, 1), "a(int, int)"},
		{decl("b_9", 1, 2, 3), "b_9(int, string, bool)"},
		{decl("a", 1, 2, 3, 1, 2, 3, 1, 2), "a(int, string, bool, int, string, bool, int, string)"},
		{decl("a", 1, 1, 1, 1, 1, 1, 1, 1, 1), "a(int, int, int, int, int, int, int, int, int)"},
		{decl("a", 0), "a()"},
		{decl("a", 4), "a()"},
		{decl("a", 0, 0), "a(, )"},
		{decl("a", -1, 4, math.MaxInt), "a(, , )"},
		{decl("a", 1, 4), "a(int, )"},
		{decl("a", 4, 1), "a(, int)"},
		{decl("a", 2, math.MinInt, 3), "a(string, , bool)"},
		{decl("a", 1<<32+1, 257), "a(, )"},
		{decl(""), "()"},
		{decl("", 1), "(int)"},
		{decl("_", 2), "_(string)"},
		{decl("if", 3), "if(bool)"},
		{decl("a, (\n\"\x80", 1), "a, (\n\"\x80(int)"},
		{decl(long+long, 1), long + long + "(int)"},
	} {
		if s := schema.Text(x.d); s != x.text || wantText(x.d) != x.text {
			t.Errorf("Text(%v) = %q, said anew %q; want %q", x.d, s, wantText(x.d), x.text)
		}
	}
	wide := decl("w", slices.Repeat([]int{2}, 1<<16)...)
	if s := schema.Text(wide); s != wantText(wide) {
		t.Errorf("the text of %d kinds has %d bytes, and begins with %.60q", len(wide.Types), len(s), s)
	}
}

// R3: a schema that is handed in stays as it was, and so does what lies behind its end.
func TestArgumentsStay(t *testing.T) {
	types := []int{1, 2, 3, 4}
	l := []api.Decl{{Name: "a", Types: types[:2]}, {Name: "b", Types: types[1:3]}, {Name: "c", Types: types[:1]}}
	was := clone(l)
	front := l[:2]
	schema.Check(front)
	schema.Find(front, "c")
	schema.Same(front, l)
	schema.Text(front[0])
	if !wantSame(l, was) || !slices.Equal(types, []int{1, 2, 3, 4}) {
		t.Fatalf("%v, of kinds %v, was %v", l, types, was)
	}
	if i, e := schema.Check(front); i != -1 || e != api.OK {
		t.Fatalf("Check = %d, %v", i, e)
	}
	if i, ok := schema.Find(front, "c"); i != 0 || ok {
		t.Fatalf("c is found behind the end, at %d", i)
	}
}

// schemaOf is the schema that bytes tell of: a name's first byte and size, how many kinds, and each of these.
func schemaOf(b []byte) []api.Decl {
	take := func() int {
		if len(b) == 0 {
			return 0
		}
		c := b[0]
		b = b[1:]
		return int(c)
	}
	var l []api.Decl
	for len(b) > 0 && len(l) < 40 {
		name := strings.Repeat(string([]byte{byte(take())}), take()%40)
		var types []int
		for range take() % 12 {
			types = append(types, take()%6-1)
		}
		l = append(l, decl(name, types...))
	}
	return l
}

// 7.2, 7.3: schemas made by chance, in which most is right.
func TestManySchemas(t *testing.T) {
	chance := rand.New(rand.NewSource(7))
	var last []api.Decl
	for range 20000 {
		l := many(chance.Intn(35))
		for i := range l {
			switch chance.Intn(60) {
			case 0:
				l[i] = some()[chance.Intn(len(some()))]
			case 1:
				l[i].Name = l[chance.Intn(len(l))].Name
			case 2:
				l[i].Name = allWords()[chance.Intn(22)]
			case 3:
				l[i].Types = slices.Repeat([]int{chance.Intn(5)}, chance.Intn(11))
			}
		}
		checkSchema(t, l)
		checkPair(t, l, last)
		if len(l) > 0 {
			changed := clone(l)
			i := chance.Intn(len(l))
			changed[i] = some()[chance.Intn(len(some()))]
			checkPair(t, l, changed)
			checkPair(t, l, l[:i])
		}
		last = l
	}
}

func FuzzName(f *testing.F) {
	for _, s := range []string{"", "_", "a", "9", "if", "If", long, long + "x", "a\x80", "and or"} {
		f.Add(s)
	}
	f.Fuzz(checkName)
}

func FuzzSchema(f *testing.F) {
	f.Add([]byte("a\x01\x02\x02\x03b\x02\x00"), []byte("a\x01\x02\x02\x03"))
	f.Add([]byte("_\x02\x08\x02\x02\x02\x02\x02\x02\x02\x02_\x02\x00"), []byte(""))
	f.Add([]byte("a\x21\x01\x05"), []byte("a\x01\x09"))
	f.Fuzz(func(t *testing.T, a, b []byte) {
		l, m := schemaOf(a), schemaOf(b)
		checkSchema(t, l)
		checkSchema(t, m)
		checkPair(t, l, m)
		for _, d := range m {
			i, ok := schema.Find(l, d.Name)
			if want, found := wantFind(l, d.Name); i != want || ok != found {
				t.Fatalf("Find(%v, %q) = %d, %v; want %d, %v", l, d.Name, i, ok, want, found)
			}
		}
	})
}
