package event_test

import (
	"fmt"
	"math"
	"math/big"
	"math/rand"
	"regexp"
	"slices"
	"strings"
	"testing"

	"proctor/api"
	"proctor/csv"
	"proctor/event"
	"proctor/quote"
	"proctor/schema"
	"proctor/value"
)

// Texts of as many bytes as a value may have, and of one more, told apart by how they begin and end.
var (
	long    = "<" + strings.Repeat("x", api.MaxStr-2) + ">"
	tooLong = "<" + strings.Repeat("x", api.MaxStr-1) + ">"
	quotes  = strings.Repeat(`"`, api.MaxStr)
)

// number says anew, straight from the chapter's words, of which form a number's text is.
var number = regexp.MustCompile(`\A(0|-?[1-9][0-9]*)\z`)

// decl is a declaration of a name with kinds.
func decl(name string, types ...int) api.Decl { return api.Decl{Name: name, Types: types} }

// of is an event of a name with arguments.
func of(name string, args ...api.Value) api.Event { return api.Event{Name: name, Args: args} }

// at is what is wrong, in which row, and in which of its fields.
func at(e api.Errno, row, field int) api.Fail { return api.Fail{Err: e, Line: row, Col: field} }

// The values of a number, a text and a truth.
func i(n int64) api.Value  { return api.Value{Kind: 1, Int: n} }
func s(x string) api.Value { return api.Value{Kind: 2, Str: x} }
func b(x bool) api.Value   { return api.Value{Kind: 3, Bool: x} }

// decls is the schema of most tests: events without arguments, with one of each kind, and with several.
func decls() []api.Decl {
	return []api.Decl{
		decl("tick"), decl("num", 1), decl("txt", 2), decl("yes", 3), decl("open", 2, 1), decl("all3", 1, 2, 3),
		decl("wide", 3, 2, 1, 3, 2, 1, 3, 2), decl("Tick", 1, 1), decl(strings.Repeat("n", api.MaxName), 3, 3),
	}
}

// same says anew whether two lists are of the same events.
func same(a, b []api.Event) bool {
	if len(a) != len(b) {
		return false
	}
	for n := range a {
		if a[n].Name != b[n].Name || len(a[n].Args) != len(b[n].Args) {
			return false
		}
		for k := range a[n].Args {
			if a[n].Args[k] != b[n].Args[k] {
				return false
			}
		}
	}
	return true
}

// anew is a list of events of new memory, in which no list is nil.
func anew(l []api.Event) []api.Event {
	c := []api.Event{}
	for _, e := range l {
		c = append(c, api.Event{Name: e.Name, Args: append([]api.Value{}, e.Args...)})
	}
	return c
}

// brief is how many events a list has, and the last ones, in short.
func brief(l []api.Event) string {
	return fmt.Sprintf("%d events, %.80v", len(l), l[max(0, len(l)-4):])
}

// lines are events as they are written, one behind the other.
func lines(l []api.Event) string {
	var text strings.Builder
	for _, e := range l {
		text.WriteString(event.Line(e))
	}
	return text.String()
}

// wantArg says anew which value of a kind a field is, or what is wrong with it.
func wantArg(kind int, field string) (api.Value, api.Errno) {
	switch {
	case kind == 2 && len(field) > 4096:
		return api.Value{}, api.ErrLong
	case kind == 2:
		return s(field), api.OK
	case kind == 3 && (field == "true" || field == "false"):
		return b(field == "true"), api.OK
	case kind == 3 || !number.MatchString(field):
		return api.Value{}, api.ErrForm
	}
	n, _ := new(big.Int).SetString(field, 10)
	if !n.IsInt64() {
		return api.Value{}, api.ErrRange
	}
	return i(n.Int64()), api.OK
}

// wantOf says anew which event a row is, or what is wrong with which field: it goes field by field, until one is wrong.
func wantOf(l []api.Decl, row []string) (api.Event, api.Fail) {
	var types []int
	var e api.Event
	for place := 0; place < len(row) || place < len(types)+1; place++ {
		if place == len(row) {
			return api.Event{}, at(api.ErrCount, 0, place+1)
		}
		if place == 0 {
			found := slices.IndexFunc(l, func(d api.Decl) bool { return d.Name == row[0] })
			if found < 0 {
				return api.Event{}, at(api.ErrName, 0, 1)
			}
			e.Name, types = row[0], l[found].Types
			continue
		}
		if place > len(types) {
			return api.Event{}, at(api.ErrCount, 0, place+1)
		}
		v, err := wantArg(types[place-1], row[place])
		if err != api.OK {
			return api.Event{}, at(err, 0, place+1)
		}
		e.Args = append(e.Args, v)
	}
	return e, api.Fail{}
}

// wantAll says anew which events a log has, how many of its rows are told by csv up to its end or what is wrong, and what that is.
func wantAll(l []api.Decl, text string) ([]api.Event, int, api.Fail) {
	rows, fail := csv.All(text)
	var all []api.Event
	for n, row := range rows {
		e, f := wantOf(l, row)
		if f == (api.Fail{}) && n >= 16384 {
			f = at(api.ErrBound, 0, 1)
		}
		if f != (api.Fail{}) {
			f.Line = n + 1
			return all, n + 1, f
		}
		all = append(all, e)
	}
	return all, len(rows), fail
}

// wantRight says anew whether an event is of a schema.
func wantRight(l []api.Decl, e api.Event) bool {
	for _, d := range l {
		if d.Name != e.Name {
			continue
		}
		if len(d.Types) != len(e.Args) {
			return false
		}
		for k, v := range e.Args {
			ok := v == i(v.Int) || v == b(v.Bool) || v == s(v.Str) && len(v.Str) <= 4096
			if !ok || v.Kind != d.Types[k] {
				return false
			}
		}
		return true
	}
	return false
}

// checkOf holds what Of tells of a row against what it must, and what it tells of its event against the row.
func checkOf(t *testing.T, l []api.Decl, row ...string) {
	t.Helper()
	given := slices.Clone(row)
	want, fail := wantOf(l, row)
	for range 2 {
		if e, f := event.Of(l, row...); f != fail || !same([]api.Event{e}, []api.Event{want}) {
			t.Fatalf("Of(%.80q) = %.80v, %v; want %.80v, %v", row, e, f, want, fail)
		}
	}
	if !slices.Equal(row, given) {
		t.Fatalf("Of changed %.80q to %.80q", given, row)
	}
	if fail != (api.Fail{}) {
		return
	}
	if !event.Right(l, want) {
		t.Fatalf("the event of %.80q is not of the schema", row)
	}
	if again := event.Row(want); !slices.Equal(again, row) {
		t.Fatalf("the row %.80q is written %.80q", row, again)
	}
}

// checkLog holds what All, and a reader one by one, tell of a log against what they must, once and when asked again.
func checkLog(t *testing.T, l []api.Decl, text string) {
	t.Helper()
	all, told, fail := wantAll(l, text)
	for range 2 {
		if got, f := event.All(l, text); f != fail || !same(got, all) {
			t.Fatalf("All(%.80q) = %s, %v; want %s, %v", text, brief(got), f, brief(all), fail)
		}
	}
	r, rows := event.New(l, text), csv.New(text)
	if r.Row() != 0 || r.Rest() != len(text) || r.Fail() != (api.Fail{}) {
		t.Fatalf("of %.80q a new reader tells %d, %d, %v", text, r.Row(), r.Rest(), r.Fail())
	}
	for n, want := range all {
		rows.Next()
		if e, ok := r.Event(); !ok || !event.Same(e, want) {
			t.Fatalf("event %d of %.80q is %.80v, %v; want %.80v", n+1, text, e, ok, want)
		}
		if r.Row() != n+1 || r.Rest() != rows.Rest() || r.Fail() != (api.Fail{}) {
			t.Fatalf("behind event %d of %.80q: %d, %d, %v; want %d bytes, and nothing wrong", n+1, text, r.Row(), r.Rest(), r.Fail(), rows.Rest())
		}
	}
	for rows.Row() < told {
		rows.Next()
	}
	for range 3 {
		if e, ok := r.Event(); ok || e.Name != "" || len(e.Args) != 0 {
			t.Fatalf("behind all events of %.80q: %.80v, %v", text, e, ok)
		}
		if r.Row() != told || r.Rest() != rows.Rest() || r.Fail() != fail {
			t.Fatalf("at the end of %.80q: %d, %d, %v; want %d, %d, %v", text, r.Row(), r.Rest(), r.Fail(), told, rows.Rest(), fail)
		}
	}
}

// checkAll holds what All tells of a log against what is written out; and that the words said anew tell it, too.
func checkAll(t *testing.T, text string, all []api.Event, fail api.Fail) {
	t.Helper()
	if got, f := event.All(decls(), text); f != fail || !same(got, all) {
		t.Errorf("All(%.80q) = %s, %v; want %s, %v", text, brief(got), f, brief(all), fail)
	}
	checkLog(t, decls(), text)
}

// 8.1: events that are of the schema: of each kind of argument, with none, one and several.
func TestRight(t *testing.T) {
	for _, e := range []api.Event{
		of("tick"),
		{Name: "tick", Args: []api.Value{}},
		of("num", i(0)),
		of("num", i(math.MinInt64)),
		of("num", i(math.MaxInt64)),
		of("txt", s("")),
		of("txt", s(long)),
		of("txt", s(quotes)),
		of("txt", s("\x00\xff\"\r\n,")),
		of("txt", s("5")),
		of("yes", b(false)),
		of("yes", b(true)),
		of("open", s("a"), i(5)),
		of("all3", i(1), s("true"), b(true)),
		of("wide", b(true), s(""), i(0), b(false), s("a"), i(-1), b(true), s(long)),
		of("Tick", i(1), i(1)),
		of(strings.Repeat("n", 32), b(false), b(true)),
	} {
		if !event.Right(decls(), e) || !wantRight(decls(), e) {
			t.Errorf("%.80v is not of the schema", e)
		}
		if event.Right(nil, e) {
			t.Errorf("%.80v is of the empty schema", e)
		}
	}
}

// 8.1: events that are not: of another name, with too few and too many arguments, of another kind, and with values that may not be.
func TestNotRight(t *testing.T) {
	for _, e := range []api.Event{
		{},
		of(""),
		of("Num", i(0)),
		of("tic"),
		of("tick "),
		of("ticks"),
		of("other", s("a"), i(5)),
		of(strings.Repeat("n", 33), b(false), b(true)),
		of("tick", i(1)),
		of("tick", api.Value{}),
		of("num"),
		of("num", i(1), i(1)),
		of("open"),
		of("open", s("a")),
		of("open", i(5)),
		of("open", s("a"), i(5), i(5)),
		of("open", s("a"), i(5), api.Value{}),
		of("open", i(5), s("a")),
		of("wide", b(true), s(""), i(0), b(false), s("a"), i(-1), b(true)),
		of("wide", b(true), s(""), i(0), b(false), s("a"), i(-1), b(true), s(""), s("")),
		of("wide", b(true), s(""), i(0), b(false), s("a"), i(-1), b(true), i(0)),
		of("wide", s(""), s(""), i(0), b(false), s("a"), i(-1), b(true), s("")),
		of("num", s("1")),
		of("num", b(true)),
		of("txt", i(1)),
		of("txt", b(false)),
		of("yes", i(1)),
		of("yes", s("true")),
		of("num", api.Value{}),
		of("num", api.Value{Kind: 4}),
		of("num", api.Value{Kind: -1, Int: 1}),
		of("num", api.Value{Int: 1}),
		of("num", api.Value{Kind: 1, Str: "a"}),
		of("num", api.Value{Kind: 1, Int: 1, Bool: true}),
		of("txt", s(tooLong)),
		of("txt", s(quotes+`"`)),
		of("txt", api.Value{Kind: 2, Str: "a", Int: 1}),
		of("txt", api.Value{Kind: 2, Bool: true}),
		of("yes", api.Value{Kind: 3, Bool: true, Int: 1}),
		of("yes", api.Value{Kind: 3, Str: "true"}),
		of("open", s("a"), api.Value{Kind: 1, Str: "a"}),
		of("open", s(tooLong), i(5)),
	} {
		if event.Right(decls(), e) || wantRight(decls(), e) {
			t.Errorf("%.80v is of the schema", e)
		}
	}
}

// arguments are values of each sort: such as may be, and such as may not.
func arguments() []api.Value {
	return []api.Value{
		i(0), i(1), i(-1), i(math.MinInt64), i(math.MaxInt64), s(""), s("a"), s("1"), s("true"), s(long), s(`a"b`), b(false), b(true),
		{}, {Kind: 4}, {Kind: -1}, {Kind: 1, Str: "a"}, {Kind: 1, Bool: true}, {Kind: 2, Int: 1}, {Kind: 2, Str: tooLong}, {Kind: 3, Int: 1}, {Kind: 3, Bool: true, Str: "x"}, {Bool: true},
	}
}

// 8.1: all events of up to two arguments of each sort, of each declaration and of none.
func TestRightOfMany(t *testing.T) {
	for _, name := range []string{"", "tick", "num", "txt", "yes", "open", "all3", "Tick", "none"} {
		for _, x := range arguments() {
			for _, y := range arguments() {
				for _, e := range []api.Event{of(name), of(name, x), of(name, x, y), of(name, x, y, b(true))} {
					if event.Right(decls(), e) != wantRight(decls(), e) {
						t.Fatalf("Right of %.80v = %v", e, !wantRight(decls(), e))
					}
				}
			}
		}
	}
}

// 8.1: whether two events are the same: by the name, by how many arguments, and by each one's fields.
func TestSame(t *testing.T) {
	l := []api.Event{{}, of("a"), of("A"), of("b"), of("a "), of(long), of(tooLong)}
	for _, v := range arguments() {
		l = append(l, of("a", v), of("", v), of("a", v, i(7)), of("a", i(7), v), of("a", v, s("x"), v))
	}
	l = slices.DeleteFunc(l, func(e api.Event) bool { return len(e.Args) == 2 && e.Args[0] == e.Args[1] })
	again := anew(l)
	for x, e := range l {
		for y, f := range l {
			if event.Same(e, f) != (x == y) || event.Same(e, again[y]) != (x == y) {
				t.Errorf("Same(%.80v, %.80v) = %v", e, f, x != y)
			}
		}
	}
	if !event.Same(api.Event{Name: "a"}, api.Event{Name: "a", Args: []api.Value{}}) {
		t.Errorf("no list, and the empty one, are told apart")
	}
	if event.Same(of("a", i(1), i(2)), of("a", i(2), i(1))) || event.Same(of("a", i(1)), of("a", i(1), i(1))) {
		t.Errorf("arguments are told apart neither by their order nor by their number")
	}
}

// 8.1: rows that are events: of each kind of argument, with none, one and several.
func TestOf(t *testing.T) {
	for _, x := range []struct {
		row []string
		e   api.Event
	}{
		{[]string{"open", "a", "5"}, of("open", s("a"), i(5))},
		{[]string{"tick"}, of("tick")},
		{[]string{"num", "0"}, of("num", i(0))},
		{[]string{"num", "-1"}, of("num", i(-1))},
		{[]string{"num", "10"}, of("num", i(10))},
		{[]string{"num", "9223372036854775807"}, of("num", i(math.MaxInt64))},
		{[]string{"num", "-9223372036854775808"}, of("num", i(math.MinInt64))},
		{[]string{"txt", ""}, of("txt", s(""))},
		{[]string{"txt", "5"}, of("txt", s("5"))},
		{[]string{"txt", "true"}, of("txt", s("true"))},
		{[]string{"txt", `"a"`}, of("txt", s(`"a"`))},
		{[]string{"txt", `a\n`}, of("txt", s(`a\n`))},
		{[]string{"txt", "a,\r\n\"\x00\xff\u00e9"}, of("txt", s("a,\r\n\"\x00\xff\u00e9"))},
		{[]string{"txt", long}, of("txt", s(long))},
		{[]string{"txt", quotes}, of("txt", s(quotes))},
		{[]string{"yes", "true"}, of("yes", b(true))},
		{[]string{"yes", "false"}, of("yes", b(false))},
		{[]string{"open", "", "-7"}, of("open", s(""), i(-7))},
		{[]string{"all3", "3", "3", "false"}, of("all3", i(3), s("3"), b(false))},
		{[]string{"wide", "true", "", "0", "false", "a", "-1", "true", long}, of("wide", b(true), s(""), i(0), b(false), s("a"), i(-1), b(true), s(long))},
		{[]string{"Tick", "1", "2"}, of("Tick", i(1), i(2))},
		{[]string{strings.Repeat("n", 32), "false", "true"}, of(strings.Repeat("n", 32), b(false), b(true))},
	} {
		if e, f := event.Of(decls(), x.row...); f != (api.Fail{}) || !same([]api.Event{e}, []api.Event{x.e}) {
			t.Errorf("Of(%.80q) = %.80v, %v", x.row, e, f)
		}
		checkOf(t, decls(), x.row...)
	}
}

// checkWrong holds what is wrong with a row, and of which field, against what is written out; and that the words said anew tell it, too.
func checkWrong(t *testing.T, e api.Errno, field int, row ...string) {
	t.Helper()
	if got, f := event.Of(decls(), row...); f != at(e, 0, field) || got.Name != "" || len(got.Args) != 0 {
		t.Errorf("Of(%.80q) = %.80v, %v; want %v, of field %d", row, got, f, e, field)
	}
	checkOf(t, decls(), row...)
}

// 8.1: a row without fields, and one with a name that no declaration has, whatever stands behind it.
func TestWrongName(t *testing.T) {
	checkWrong(t, api.ErrCount, 1)
	for _, name := range []string{"", "none", "TICK", "tick ", " tick", "tic", "ticks", "tick\x00", "tick()", "_", "if", "5", long, tooLong, strings.Repeat("n", 31), strings.Repeat("n", 33)} {
		checkWrong(t, api.ErrName, 1, name)
		checkWrong(t, api.ErrName, 1, name, "")
		checkWrong(t, api.ErrName, 1, name, "a", "5")
		checkWrong(t, api.ErrName, 1, name, tooLong, "05", "yes")
	}
	if e, f := event.Of(nil); f != at(api.ErrCount, 0, 1) || !event.Same(e, api.Event{}) {
		t.Errorf("no fields, of no schema: %v, %v", e, f)
	}
	if e, f := event.Of(nil, "tick"); f != at(api.ErrName, 0, 1) || !event.Same(e, api.Event{}) {
		t.Errorf("a row of no schema: %v, %v", e, f)
	}
}

// 8.1: an argument lacking is told of the field behind the last one, one too many of its own.
func TestWrongCount(t *testing.T) {
	wide := []string{"wide", "true", "", "0", "false", "a", "-1", "true", ""}
	for size := 1; size < len(wide); size++ {
		checkWrong(t, api.ErrCount, size+1, wide[:size]...)
	}
	checkWrong(t, api.ErrCount, 10, append(slices.Clone(wide), "")...)
	checkWrong(t, api.ErrCount, 10, append(slices.Clone(wide), "true", "x", "9")...)
	checkWrong(t, api.ErrCount, 2, "tick", "")
	checkWrong(t, api.ErrCount, 2, "tick", "x")
	checkWrong(t, api.ErrCount, 2, "tick", tooLong, "x")
	checkWrong(t, api.ErrCount, 2, "num")
	checkWrong(t, api.ErrCount, 3, "num", "1", "1")
	checkWrong(t, api.ErrCount, 3, "num", "1", "05")
	checkWrong(t, api.ErrCount, 2, "open")
	checkWrong(t, api.ErrCount, 3, "open", "a")
	checkWrong(t, api.ErrCount, 4, "open", "a", "5", "5")
	checkWrong(t, api.ErrCount, 4, "open", "a", "5", "")
	checkWrong(t, api.ErrCount, 4, append([]string{"open", "a"}, slices.Repeat([]string{"5"}, 5000)...)...)
}

// 8.1: beside an argument that is wrong, the first field with which something is is told.
func TestWhichFieldIsTold(t *testing.T) {
	checkWrong(t, api.ErrLong, 2, "open", tooLong)
	checkWrong(t, api.ErrLong, 2, "open", tooLong, "05")
	checkWrong(t, api.ErrLong, 2, "open", tooLong, "5", "5")
	checkWrong(t, api.ErrForm, 3, "open", "a", "05", "5")
	checkWrong(t, api.ErrRange, 3, "open", "a", "9223372036854775808", "5")
	checkWrong(t, api.ErrForm, 2, "num", "", "")
	checkWrong(t, api.ErrForm, 2, "Tick", "x")
	checkWrong(t, api.ErrForm, 2, "Tick", "x", "y")
	checkWrong(t, api.ErrForm, 3, "Tick", "1", "y")
	checkWrong(t, api.ErrRange, 2, "Tick", "9223372036854775808", "y", "z")
	checkWrong(t, api.ErrForm, 2, "all3", "+1", "a")
	checkWrong(t, api.ErrLong, 3, "all3", "1", tooLong)
	checkWrong(t, api.ErrLong, 3, "all3", "1", tooLong, "no")
	checkWrong(t, api.ErrForm, 4, "all3", "1", "a", "no", "")
	checkWrong(t, api.ErrCount, 4, "all3", "1", "a")
	checkWrong(t, api.ErrForm, 4, "wide", "true", "", "x", "y")
	checkWrong(t, api.ErrForm, 2, "wide", "", "", "x")
	checkWrong(t, api.ErrLong, 9, "wide", "true", "", "0", "false", "a", "-1", "true", tooLong, "")
}

// 8.1: numbers at their ends and beyond, and in other forms.
func TestNumbers(t *testing.T) {
	for _, field := range []string{
		"9223372036854775808", "-9223372036854775809", "10000000000000000000", "18446744073709551616", "99999999999999999999", "-99999999999999999999",
		strings.Repeat("9", 4096), "1" + strings.Repeat("0", 5000), "-" + strings.Repeat("1", 5000),
	} {
		checkWrong(t, api.ErrRange, 2, "num", field)
		checkWrong(t, api.ErrRange, 3, "open", "a", field)
	}
	for _, field := range []string{
		"", "-", "+", "+1", "-0", "00", "01", "-01", "007", "1 ", " 1", "1\n", "1.0", "1.", ".1", "1e3", "0x1", "1_000", "--1", "-+1", "1-", "a", "1a", "a1", "\u0661", "\x00", "1\x00",
		"true", "false", `"5"`, `"a"`, `""`, `"`, "'5'", "5,5", "0" + strings.Repeat("9", 40), "+99999999999999999999", "99999999999999999999a", "99999999999999999999.", "-099999999999999999999",
		tooLong, `"` + tooLong + `"`, `"` + long + `"`, `"` + strings.Repeat("1", 5000) + `"`, strings.Repeat("0", 5000),
	} {
		checkWrong(t, api.ErrForm, 2, "num", field)
		checkWrong(t, api.ErrForm, 3, "open", "a", field)
	}
	for n := int64(-200); n <= 200; n++ {
		for _, m := range []int64{n, n << 40, math.MaxInt64 - n*n, math.MinInt64 + n*n} {
			checkOf(t, decls(), "num", fmt.Sprint(m))
			checkOf(t, decls(), "num", "0"+fmt.Sprint(m))
			checkOf(t, decls(), "num", fmt.Sprint(m)+"0")
			checkOf(t, decls(), "num", fmt.Sprint(m)+"00")
		}
	}
}

// 8.1: of what is neither true nor false nothing else is told, even where another kind's text would be too great, or too long.
func TestTruths(t *testing.T) {
	for _, field := range []string{
		"", "True", "TRUE", "False", "FALSE", "t", "f", "yes", "no", "1", "0", "-1", "true ", " true", "true\n", "tru", "truee", "falsee", "fals", "truefalse", "tRue", `"true"`, `"false"`, "!true", "not false", "true\x00",
		"99999999999999999999", "-99999999999999999999", "05", `"a`, `""`, tooLong, `"` + tooLong + `"`, `"` + long + `"`,
	} {
		checkWrong(t, api.ErrForm, 2, "yes", field)
		checkWrong(t, api.ErrForm, 4, "all3", "1", "", field)
	}
}

// 8.1: texts of 4096 bytes are arguments, and of 4097 they are not; of other kinds that size tells nothing.
func TestTexts(t *testing.T) {
	for _, text := range []string{long, quotes, strings.Repeat("\xff", 4096), strings.Repeat("\u00e9", 2048), strings.Repeat("\r\n", 2048)} {
		checkOf(t, decls(), "txt", text)
		checkOf(t, decls(), "open", text, "5")
		checkWrong(t, api.ErrLong, 2, "txt", text+"a")
		checkWrong(t, api.ErrLong, 2, "txt", text+`"`)
		checkWrong(t, api.ErrLong, 2, "open", text+"\x00", "5")
		checkWrong(t, api.ErrLong, 9, "wide", "true", text, "0", "false", text, "-1", "true", text+text)
		checkLog(t, decls(), event.Line(of("txt", s(text)))+"tick")
		checkLog(t, decls(), event.Line(of("txt", s(text+"a")))+"tick")
	}
	checkWrong(t, api.ErrLong, 2, "txt", strings.Repeat("a", 1<<20))
}

// fieldsOfAll are fields of each sort.
func fieldsOfAll() []string {
	return []string{"", "0", "-0", "-5", "9223372036854775807", "9223372036854775808", "true", "false", "True", "a", `"a"`, `a"b`, ",", "\r\n", long, tooLong, "tick", "open"}
}

// 8.1: all rows of up to three fields of each sort behind each name, and behind none.
func TestOfMany(t *testing.T) {
	for _, name := range []string{"", "tick", "num", "txt", "yes", "open", "all3", "wide", "Tick", "none"} {
		checkOf(t, decls(), name)
		for _, x := range fieldsOfAll() {
			checkOf(t, decls(), name, x)
			for _, y := range fieldsOfAll() {
				checkOf(t, decls(), name, x, y)
				for _, z := range fieldsOfAll() {
					checkOf(t, decls(), name, x, y, z)
				}
			}
		}
	}
}

// 8.2: the row, the line and the text of events.
func TestWritten(t *testing.T) {
	for _, x := range []struct {
		e    api.Event
		row  []string
		line string
		text string
	}{
		{of("tick"), []string{"tick"}, "tick\r\n", "tick()"},
		{api.Event{Name: "tick", Args: []api.Value{}}, []string{"tick"}, "tick\r\n", "tick()"},
		{of("num", i(-5)), []string{"num", "-5"}, "num,-5\r\n", "num(-5)"},
		{of("num", i(math.MinInt64)), []string{"num", "-9223372036854775808"}, "num,-9223372036854775808\r\n", "num(-9223372036854775808)"},
		{of("txt", s("a")), []string{"txt", "a"}, "txt,a\r\n", `txt("a")`},
		{of("txt", s("")), []string{"txt", ""}, "txt,\r\n", `txt("")`},
		{of("txt", s("a b")), []string{"txt", "a b"}, "txt,a b\r\n", `txt("a b")`},
		{of("txt", s("5")), []string{"txt", "5"}, "txt,5\r\n", `txt("5")`},
		{of("txt", s(`a"b`)), []string{"txt", `a"b`}, "txt,\"a\"\"b\"\r\n", `txt("a\"b")`},
		{of("txt", s(`a\b`)), []string{"txt", `a\b`}, "txt,a\\b\r\n", `txt("a\\b")`},
		{of("txt", s("a,b")), []string{"txt", "a,b"}, "txt,\"a,b\"\r\n", `txt("a,b")`},
		{of("txt", s("a\r\nb")), []string{"txt", "a\r\nb"}, "txt,\"a\r\nb\"\r\n", "txt(" + quote.Quote("a\r\nb") + ")"},
		{of("txt", s("\x00\xff")), []string{"txt", "\x00\xff"}, "txt,\"\x00\xff\"\r\n", "txt(" + quote.Quote("\x00\xff") + ")"},
		{of("txt", s(long)), []string{"txt", long}, "txt," + long + "\r\n", `txt("` + long + `")`},
		{of("yes", b(true)), []string{"yes", "true"}, "yes,true\r\n", "yes(true)"},
		{of("yes", b(false)), []string{"yes", "false"}, "yes,false\r\n", "yes(false)"},
		{of("open", s("a"), i(5)), []string{"open", "a", "5"}, "open,a,5\r\n", `open("a", 5)`},
		{of("all3", i(0), s("true"), b(true)), []string{"all3", "0", "true", "true"}, "all3,0,true,true\r\n", `all3(0, "true", true)`},
		{of("any", s(""), s(""), s(",")), []string{"any", "", "", ","}, "any,,,\",\"\r\n", `any("", "", ",")`},
	} {
		if row := event.Row(x.e); !slices.Equal(row, x.row) {
			t.Errorf("Row(%.80v) = %.80q; want %.80q", x.e, row, x.row)
		}
		if line := event.Line(x.e); line != x.line || line != csv.Line(x.row...) {
			t.Errorf("Line(%.80v) = %.80q; want %.80q", x.e, line, x.line)
		}
		if text := event.Text(x.e); text != x.text {
			t.Errorf("Text(%.80v) = %.80q; want %.80q", x.e, text, x.text)
		}
	}
}

// 8.2: events whatever their names and values are: a text stands itself, what may not be has the empty text.
func TestWrittenOfAny(t *testing.T) {
	for _, x := range []struct {
		e    api.Event
		row  []string
		text string
	}{
		{api.Event{}, []string{""}, "()"},
		{of("", i(1)), []string{"", "1"}, "(1)"},
		{of("if \"\n", i(1)), []string{"if \"\n", "1"}, "if \"\n(1)"},
		{of(tooLong), []string{tooLong}, tooLong + "()"},
		{of("a", api.Value{}), []string{"a", ""}, "a()"},
		{of("a", api.Value{Kind: 4}, i(1)), []string{"a", "", "1"}, "a(, 1)"},
		{of("a", i(1), api.Value{Kind: 1, Int: 5, Bool: true}), []string{"a", "1", ""}, "a(1, )"},
		{of("a", api.Value{Kind: 3, Bool: true, Int: 1}, api.Value{Kind: -1, Str: "x"}), []string{"a", "", ""}, "a(, )"},
		{of("a", s(tooLong)), []string{"a", tooLong}, "a()"},
	} {
		if row := event.Row(x.e); !slices.Equal(row, x.row) {
			t.Errorf("Row(%.80v) = %.80q; want %.80q", x.e, row, x.row)
		}
		if line := event.Line(x.e); line != csv.Line(x.row...) {
			t.Errorf("Line(%.80v) = %.80q", x.e, line)
		}
		if text := event.Text(x.e); text != x.text {
			t.Errorf("Text(%.80v) = %.80q; want %.80q", x.e, text, x.text)
		}
	}
	for c := range 256 {
		x := string([]byte{byte(c)})
		e := of("txt", s("a"+x), s(x))
		if row := event.Row(e); !slices.Equal(row, []string{"txt", "a" + x, x}) {
			t.Errorf("byte %d in a row: %q", c, row)
		}
		if text := event.Text(e); text != "txt("+quote.Quote("a"+x)+", "+quote.Quote(x)+")" {
			t.Errorf("byte %d in a text: %q", c, text)
		}
	}
}

// 8.3: logs of no row, one and several, with and without an end of line at the end.
func TestLogs(t *testing.T) {
	tick, bid := of("tick"), of("open", s("a,b"), i(5))
	for _, x := range []struct {
		text string
		all  []api.Event
	}{
		{"", nil},
		{"tick", []api.Event{tick}},
		{"tick\r\n", []api.Event{tick}},
		{"tick\r\ntick", []api.Event{tick, tick}},
		{"open,\"a,b\",5\r\ntick\r\nyes,true\r\n", []api.Event{bid, tick, of("yes", b(true))}},
		{"open,\"a,b\",5\r\ntick\r\nyes,true", []api.Event{bid, tick, of("yes", b(true))}},
		{"txt,", []api.Event{of("txt", s(""))}},
		{"txt,\"\"\r\n", []api.Event{of("txt", s(""))}},
		{"txt,\"\r\n\"\r\ntick", []api.Event{of("txt", s("\r\n")), tick}},
		{"\"tick\"\r\n\"num\",\"-5\"", []api.Event{tick, of("num", i(-5))}},
		{"all3,1,\"\"\"\",false\r\nopen,,0", []api.Event{of("all3", i(1), s(`"`), b(false)), of("open", s(""), i(0))}},
		{"txt,true\r\ntxt,5\r\ntxt, a ", []api.Event{of("txt", s("true")), of("txt", s("5")), of("txt", s(" a "))}},
	} {
		checkAll(t, x.text, x.all, api.Fail{})
	}
}

// 8.3: a row that is wrong as a row, and one that is wrong as an event, are told with their numbers, and the events ahead.
func TestWrongLogs(t *testing.T) {
	tick, num := of("tick"), of("num", i(1))
	for _, x := range []struct {
		text string
		all  []api.Event
		fail api.Fail
	}{
		{"\r\n", nil, at(api.ErrName, 1, 1)},
		{"\r\ntick\r\n", nil, at(api.ErrName, 1, 1)},
		{"tick\r\n\r\n", []api.Event{tick}, at(api.ErrName, 2, 1)},
		{"tick\r\n\r\ntick", []api.Event{tick}, at(api.ErrName, 2, 1)},
		{"tick\r\n,\r\n", []api.Event{tick}, at(api.ErrName, 2, 1)},
		{"sold,x", nil, at(api.ErrName, 1, 1)},
		{"tick\r\nnum,1\r\nsold", []api.Event{tick, num}, at(api.ErrName, 3, 1)},
		{"tick,", nil, at(api.ErrCount, 1, 2)},
		{"tick,x\r\ntick", nil, at(api.ErrCount, 1, 2)},
		{"tick\r\nopen,a", []api.Event{tick}, at(api.ErrCount, 2, 3)},
		{"tick\r\nopen,a,5,5\r\n", []api.Event{tick}, at(api.ErrCount, 2, 4)},
		{"num,1\r\nopen,a,05\r\ntick", []api.Event{num}, at(api.ErrForm, 2, 3)},
		{"open,a,9223372036854775808", nil, at(api.ErrRange, 1, 3)},
		{"num,\"\"", nil, at(api.ErrForm, 1, 2)},
		{"yes,yes\r\n", nil, at(api.ErrForm, 1, 2)},
		{"tick\r\ntick\n", []api.Event{tick}, at(api.ErrText, 2, 1)},
		{"tick\n", nil, at(api.ErrText, 1, 1)},
		{"open,x,\"5", nil, at(api.ErrQuote, 1, 3)},
		{"tick\r\nnum,1\r\ntxt,a\"b\r\n", []api.Event{tick, num}, at(api.ErrQuote, 3, 2)},
		{"tick\r\ntxt," + tooLong, []api.Event{tick}, at(api.ErrLong, 2, 2)},
		{"num," + strings.Repeat("9", 4097), nil, at(api.ErrLong, 1, 2)},
		{"num," + strings.Repeat("9", 4096), nil, at(api.ErrRange, 1, 2)},
		{tooLong, nil, at(api.ErrLong, 1, 1)},
		{"tick,\x80", nil, at(api.ErrText, 1, 2)},
		{"sold,\"", nil, at(api.ErrQuote, 1, 2)},
		{"num,x,\x80", nil, at(api.ErrText, 1, 3)},
		{"sold\r\n\"", nil, at(api.ErrName, 1, 1)},
		{"num,x\r\n\x80", nil, at(api.ErrForm, 1, 2)},
		{"num,1\r\n\x80\r\nsold", []api.Event{num}, at(api.ErrText, 2, 1)},
	} {
		checkAll(t, x.text, x.all, x.fail)
	}
}

// 8.3: a log of 16384 rows, and of more: each further row is wrong, but for what else is wrong with it.
func TestManyRows(t *testing.T) {
	full := slices.Repeat([]api.Event{of("tick"), of("num", i(7)), of("txt", s("\r\n")), of("open", s(""), i(-1))}, 4096)
	text := lines(full)
	checkAll(t, text, full, api.Fail{})
	checkAll(t, text[:len(text)-2], full, api.Fail{})
	for _, x := range []struct {
		more string
		fail api.Fail
	}{
		{"tick", at(api.ErrBound, 16385, 1)},
		{"tick\r\n", at(api.ErrBound, 16385, 1)},
		{"open,a,5\r\ntick\r\n", at(api.ErrBound, 16385, 1)},
		{"tick\r\n\x80", at(api.ErrBound, 16385, 1)},
		{"tick\r\nsold", at(api.ErrBound, 16385, 1)},
		{text, at(api.ErrBound, 16385, 1)},
		{"\r\n", at(api.ErrName, 16385, 1)},
		{"sold", at(api.ErrName, 16385, 1)},
		{"open,a,05", at(api.ErrForm, 16385, 3)},
		{"open,a", at(api.ErrCount, 16385, 3)},
		{"tick,x", at(api.ErrCount, 16385, 2)},
		{"open,a,5\n", at(api.ErrText, 16385, 3)},
		{"\"", at(api.ErrQuote, 16385, 1)},
		{tooLong, at(api.ErrLong, 16385, 1)},
	} {
		checkAll(t, text+x.more, full, x.fail)
	}
	short := lines(full[1:])
	checkAll(t, short, full[1:], api.Fail{})
	checkAll(t, short+"tick", append(slices.Clone(full[1:]), of("tick")), api.Fail{})
	checkAll(t, short+"sold", full[1:], at(api.ErrName, 16384, 1))
	checkAll(t, short+"sold\r\ntick", full[1:], at(api.ErrName, 16384, 1))
	checkAll(t, "sold\r\n"+text, nil, at(api.ErrName, 1, 1))
}

// 8.3: a reader one by one, with csv's Row and Rest; behind a row that is wrong it tells nothing more, though events stand there.
func TestReader(t *testing.T) {
	for _, x := range []struct {
		wrong string
		fail  api.Fail
		row   int
		rest  int
	}{
		{"num,x", at(api.ErrForm, 3, 2), 3, 6},
		{"num,\x80", at(api.ErrText, 3, 2), 2, 13},
	} {
		r := event.New(decls(), "num,4\r\ntxt,\"\"\"\"\r\n"+x.wrong+"\r\ntick\r\n")
		for n, e := range []api.Event{of("num", i(4)), of("txt", s(`"`))} {
			if got, ok := r.Event(); !ok || !event.Same(got, e) {
				t.Fatalf("event %d is %v, %v", n+1, got, ok)
			}
			if r.Row() != n+1 || r.Rest() != []int{23, 13}[n] || r.Fail() != (api.Fail{}) {
				t.Fatalf("behind event %d: %d, %d, %v", n+1, r.Row(), r.Rest(), r.Fail())
			}
		}
		for range 3 {
			if e, ok := r.Event(); ok || e.Name != "" || len(e.Args) != 0 {
				t.Fatalf("behind what is wrong: %v, %v", e, ok)
			}
			if r.Row() != x.row || r.Rest() != x.rest || r.Fail() != x.fail {
				t.Fatalf("behind what is wrong: %d, %d, %v; want %d, %d, %v", r.Row(), r.Rest(), r.Fail(), x.row, x.rest, x.fail)
			}
		}
		if rows := r.Reader; rows.Row() != r.Row() || rows.Rest() != r.Rest() {
			t.Fatalf("the reader of rows tells %d, %d", rows.Row(), rows.Rest())
		}
	}
}

// 8.3: readers of one log know nothing of one another.
func TestReadersApart(t *testing.T) {
	const text = "tick\r\nnum,5\r\nsold\r\n"
	first, second := event.New(decls(), text), event.New(decls(), text)
	for range 3 {
		first.Event()
	}
	if second.Row() != 0 || second.Rest() != len(text) || second.Fail() != (api.Fail{}) {
		t.Fatalf("a reader tells %d, %d, %v of what another one read", second.Row(), second.Rest(), second.Fail())
	}
	if e, ok := second.Event(); !ok || !event.Same(e, of("tick")) {
		t.Fatalf("a reader tells %v, %v behind another one", e, ok)
	}
	if first.Row() != 3 || first.Rest() != 0 || first.Fail() != at(api.ErrName, 3, 1) {
		t.Fatalf("%d, %d, %v behind another one's event", first.Row(), first.Rest(), first.Fail())
	}
}

// 8.3: of a nil reader: nothing, false, zero. (Row and Rest come by embedding: R1 promises them of readers that New made.)
func TestNilReader(t *testing.T) {
	var r *event.Reader
	for range 2 {
		if e, ok := r.Event(); ok || e.Name != "" || len(e.Args) != 0 {
			t.Errorf("a nil reader's Event = %v, %v", e, ok)
		}
		if f := r.Fail(); f != (api.Fail{}) {
			t.Errorf("a nil reader's Fail = %v", f)
		}
	}
}

// 8.3: of the empty schema no row is an event.
func TestEmptySchema(t *testing.T) {
	for _, l := range [][]api.Decl{nil, {}} {
		checkLog(t, l, "")
		checkLog(t, l, "tick")
		checkLog(t, l, "\r\n")
		checkLog(t, l, "tick\n")
	}
}

// R1: of schemas with which something is wrong every call ends, and none panics.
func TestWrongSchemas(t *testing.T) {
	for _, l := range [][]api.Decl{
		{decl("")},
		{decl("", 1)},
		{decl("a", 0)},
		{decl("a", 4, -1)},
		{decl("a", math.MaxInt, math.MinInt)},
		{decl("a", 1), decl("a", 2)},
		{decl("a", make([]int, 1000)...)},
		make([]api.Decl, 1000),
	} {
		for _, row := range [][]string{nil, {""}, {"", "1"}, {"a"}, {"a", "1"}, {"a", "", ""}, slices.Repeat([]string{"a"}, 1001)} {
			e, f := event.Of(l, row...)
			if f.Err != api.OK && !event.Same(e, api.Event{}) {
				t.Errorf("of %.80v: %v beside %v", l, e, f)
			}
			event.All(l, csv.Line(row...))
		}
		for _, v := range arguments() {
			event.Right(l, of("a", v))
			event.Right(l, of("", v, v))
		}
	}
	twice := []api.Decl{decl("a", 1), decl("a", 2)}
	if e, f := event.Of(twice, "a", "5"); f != (api.Fail{}) || !event.Same(e, of("a", i(5))) || !event.Right(twice, e) {
		t.Errorf("of two declarations of one name the first is not taken: %v, %v", e, f)
	}
	if e, f := event.Of([]api.Decl{decl("a", 0)}, "a", "5"); f.Err == api.OK || f.Col != 2 {
		t.Errorf("a field of no kind is %v, %v", e, f)
	}
}

// anyEvent is an event of a schema, with arguments made by chance.
func anyEvent(chance *rand.Rand, l []api.Decl) api.Event {
	d := l[chance.Intn(len(l))]
	e := of(d.Name)
	for _, kind := range d.Types {
		switch kind {
		case api.Int:
			e.Args = append(e.Args, i(int64(chance.Uint64()>>chance.Intn(64))))
		case api.Str:
			e.Args = append(e.Args, s(anyText(chance)))
		case api.Bool:
			e.Args = append(e.Args, b(chance.Intn(2) == 0))
		}
	}
	return e
}

// anyText is a text made by chance, of bytes most of which mean something; now and then as long as one may be.
func anyText(chance *rand.Rand) string {
	text := make([]byte, chance.Intn(8))
	if chance.Intn(100) == 0 {
		text = make([]byte, api.MaxStr)
	}
	for k := range text {
		text[k] = "ab5,\"\\\r\n"[chance.Intn(8)]
		if chance.Intn(4) == 0 {
			text[k] = byte(chance.Intn(256))
		}
	}
	return string(text)
}

// checkBack holds that events whose lines are written one behind the other are read as they were.
func checkBack(t *testing.T, l []api.Decl, all []api.Event) {
	t.Helper()
	text := lines(all)
	if got, f := event.All(l, text); f != (api.Fail{}) || !same(got, all) {
		t.Fatalf("the events %s are read as %s, %v", brief(all), brief(got), f)
	}
	for _, e := range all {
		if got, f := event.Of(l, event.Row(e)...); f != (api.Fail{}) || !event.Same(got, e) || !event.Right(l, e) {
			t.Fatalf("the event %.80v has a row of %.80v, %v", e, got, f)
		}
	}
}

// 8.4: events of a schema are read as they were written; a log that has one changed byte is told as the words said anew tell it.
func TestWrittenEventsAreRead(t *testing.T) {
	checkBack(t, decls(), nil)
	chance := rand.New(rand.NewSource(8))
	for range 2000 {
		var all []api.Event
		for range chance.Intn(7) {
			all = append(all, anyEvent(chance, decls()))
		}
		checkBack(t, decls(), all)
		text := []byte(lines(all))
		checkLog(t, decls(), string(text))
		if len(text) > 0 {
			text[chance.Intn(len(text))] = "ab5,\"\\\r\n-0\x80"[chance.Intn(11)]
			checkLog(t, decls(), string(text))
			checkLog(t, decls(), string(text[:chance.Intn(len(text))]))
		}
	}
}

// R3: a schema and an event that are handed in stay as they were, and so does what lies behind their ends.
func TestArgumentsStay(t *testing.T) {
	l, args := decls(), []api.Value{s("a"), i(5), b(true)}
	e := of("open", args[:2]...)
	event.Right(l, e)
	event.Same(e, e)
	event.Row(e)
	event.Line(e)
	event.Text(e)
	event.Of(l[:4], "open", "a", "5")
	event.All(l[:4], "tick\r\nopen,a,5")
	if !schema.Same(l, decls()) || !slices.Equal(args, []api.Value{s("a"), i(5), b(true)}) {
		t.Fatalf("%v, %v", l, args)
	}
	if event.Right(l[:4], e) {
		t.Fatalf("a declaration is found behind the end")
	}
}

// R3: what is answered is memory of its own: writing to an event, or a row, is not seen in another one, nor in what is told later.
func TestAnswersAreNewMemory(t *testing.T) {
	const text = "open,a,5\r\nopen,b,6\r\nopen,c,7\r\n"
	want := []api.Event{of("open", s("a"), i(5)), of("open", s("b"), i(6)), of("open", s("c"), i(7))}
	all, _ := event.All(decls(), text)
	for n := range all {
		clear(all[n].Args)
		_ = append(all[n].Args, b(true), b(true))
	}
	for n, e := range all {
		if !event.Same(e, of("open", api.Value{}, api.Value{})) {
			t.Fatalf("event %d is %v behind changes of the others", n+1, e)
		}
	}
	r := event.New(decls(), text)
	for n, x := range want {
		e, ok := r.Event()
		if !ok || !event.Same(e, x) {
			t.Fatalf("event %d is %v, %v behind a change of the one ahead", n+1, e, ok)
		}
		clear(e.Args)
		_ = append(e.Args, b(true))
	}
	row := event.Row(want[0])
	clear(row)
	if again := event.Row(want[0]); !slices.Equal(again, []string{"open", "a", "5"}) {
		t.Errorf("Row = %q behind a change of an earlier answer", again)
	}
}

func FuzzLog(f *testing.F) {
	for _, text := range []string{"", "tick\r\n", "open,\"a,b\",5\r\nyes,true", "num,05", "num,9223372036854775808", "yes,yes", "tick,x", "open,a", "\r\n", "sold", "txt,\"", "tick\n", "txt," + tooLong} {
		f.Add(text)
	}
	f.Fuzz(func(t *testing.T, text string) {
		checkLog(t, decls(), text)
		all, _ := event.All(decls(), text)
		checkBack(t, decls(), all)
	})
}

func FuzzEvent(f *testing.F) {
	f.Add("all3", int64(5), "a", true, "5")
	f.Add("wide", int64(math.MinInt64), "\"\r\n,", false, "true")
	f.Add("open", int64(0), long, false, "")
	f.Fuzz(func(t *testing.T, name string, n int64, text string, is bool, field string) {
		for _, row := range [][]string{{name}, {name, field}, {name, text, field}, {name, field, text, field}} {
			checkOf(t, decls(), row...)
		}
		e := of("all3", i(n), s(text), b(is))
		if event.Right(decls(), e) != (len(text) <= api.MaxStr) {
			t.Fatalf("Right(%.80v) = %v", e, len(text) > api.MaxStr)
		}
		if event.Right(decls(), e) {
			checkBack(t, decls(), []api.Event{e, of("open", s(text), i(n))})
		}
		if got := event.Text(e); len(text) <= api.MaxStr && got != fmt.Sprintf("all3(%d, %s, %v)", n, value.Text(s(text)), is) {
			t.Fatalf("Text(%.80v) = %.80q", e, got)
		}
	})
}
