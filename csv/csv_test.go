package csv_test

import (
	"math/rand"
	"slices"
	"strings"
	"testing"

	"proctor/api"
	"proctor/csv"
)

// rows are rows of fields, as they are written out.
type rows = [][]string

// at is what is wrong, in which row, and in which of its fields.
func at(e api.Errno, row, field int) api.Fail { return api.Fail{Err: e, Line: row, Col: field} }

// Fields of as many bytes as one may have, and of one more, told apart by how they begin and end.
var (
	long     = "<" + strings.Repeat("x", api.MaxStr-2) + ">"
	tooLong  = "<" + strings.Repeat("x", api.MaxStr-1) + ">"
	quotes   = strings.Repeat(`"`, api.MaxStr)
	allBytes = everyByte()
)

// everyByte is a text that has each byte once.
func everyByte() string {
	var b []byte
	for c := range 256 {
		b = append(b, byte(c))
	}
	return string(b)
}

// quoted is a text between quotes, whether it needs them or not.
func quoted(s string) string {
	return `"` + strings.ReplaceAll(s, `"`, `""`) + `"`
}

// same tells whether two lists of rows are the same.
func same(a, b rows) bool {
	return slices.EqualFunc(a, b, func(x, y []string) bool { return slices.Equal(x, y) })
}

// lines are rows as they are written, one behind the other.
func lines(l rows) string {
	text := ""
	for _, row := range l {
		text += csv.Line(row...)
	}
	return text
}

// mayStand says anew, straight from the chapter's words, whether a byte may stand in a field without quotes.
func mayStand(c byte) bool {
	return c >= 32 && c <= 126 && c != 34 && c != 44
}

// wantField says anew how a field begins a text: the field, how many bytes it stands in, and what is wrong with it. It goes byte by byte, and knows where it stands by a state.
func wantField(s string) (string, int, api.Errno) {
	const (
		beginning = iota
		plain
		inside
		behindQuote
	)
	field, state, i := []byte{}, beginning, 0
	for ; i < len(s); i++ {
		c := s[i]
		switch {
		case state == beginning && c == '"':
			state = inside
			continue
		case state == inside && c == '"':
			state = behindQuote
			continue
		case state == behindQuote && c == '"':
			state = inside
		case state == inside:
		case state != behindQuote && mayStand(c):
			state = plain
		default:
			return wantEnd(string(field), s[i:], i, state == behindQuote)
		}
		field = append(field, c)
	}
	if state == inside {
		return "", 0, api.ErrQuote
	}
	return wantEnd(string(field), "", i, state == behindQuote)
}

// wantEnd says anew what is wrong with a field of a size, by what is left behind it.
func wantEnd(field, rest string, size int, hadQuotes bool) (string, int, api.Errno) {
	ends := rest == "" || rest[0] == ',' || len(rest) > 1 && rest[0] == 13 && rest[1] == 10
	switch {
	case !hadQuotes && rest != "" && rest[0] == '"':
		return "", 0, api.ErrQuote
	case len(field) > 4096:
		return "", 0, api.ErrLong
	case !ends && hadQuotes:
		return "", 0, api.ErrQuote
	case !ends:
		return "", 0, api.ErrText
	}
	return field, size, api.OK
}

// wantRow says anew which fields the row at a text's beginning has, what is left behind it, and what is wrong with which of its fields.
func wantRow(s string) ([]string, string, api.Errno, int) {
	var row []string
	for {
		field, size, e := wantField(s)
		if e != api.OK {
			return nil, s, e, len(row) + 1
		}
		row, s = append(row, field), s[size:]
		if s == "" {
			return row, "", api.OK, 0
		}
		if s[0] == 13 {
			return row, s[2:], api.OK, 0
		}
		s = s[1:]
	}
}

// want is what a reader must tell of a text: its rows, how many bytes stand behind each, and what is wrong.
func want(s string) (rows, []int, api.Fail) {
	var all rows
	var rests []int
	for s != "" {
		row, rest, e, field := wantRow(s)
		if e != api.OK {
			return all, rests, at(e, len(all)+1, field)
		}
		all, rests, s = append(all, row), append(rests, len(rest)), rest
	}
	return all, rests, api.Fail{}
}

// checkText holds what All, and a reader row by row, tell of a text against what they must.
func checkText(t *testing.T, s string) {
	t.Helper()
	all, rests, fail := want(s)
	if got, f := csv.All(s); !same(got, all) || f != fail {
		t.Fatalf("All(%.80q) = %.80q, %v; want %.80q, %v", s, got, f, all, fail)
	}
	r := csv.New(s)
	if r.Row() != 0 || r.Rest() != len(s) || r.Fail() != (api.Fail{}) {
		t.Fatalf("of %.80q a new reader tells %d, %d, %v", s, r.Row(), r.Rest(), r.Fail())
	}
	for i, row := range all {
		if got, ok := r.Next(); !ok || !slices.Equal(got, row) {
			t.Fatalf("row %d of %.80q is %.80q, %v; want %.80q", i+1, s, got, ok, row)
		}
		if r.Row() != i+1 || r.Rest() != rests[i] || r.Fail() != (api.Fail{}) {
			t.Fatalf("behind row %d of %.80q: %d, %d, %v; want %d bytes, and nothing wrong", i+1, s, r.Row(), r.Rest(), r.Fail(), rests[i])
		}
	}
	rest := len(s)
	if len(rests) > 0 {
		rest = rests[len(rests)-1]
	}
	for range 3 {
		if got, ok := r.Next(); ok || len(got) != 0 {
			t.Fatalf("behind all rows of %.80q: %.80q, %v", s, got, ok)
		}
		if r.Row() != len(all) || r.Rest() != rest || r.Fail() != fail {
			t.Fatalf("at the end of %.80q: %d, %d, %v; want %d, %d, %v", s, r.Row(), r.Rest(), r.Fail(), len(all), rest, fail)
		}
	}
}

// checkAll holds what All tells of a text against what is written out; and that the words said anew tell it, too.
func checkAll(t *testing.T, s string, all rows, fail api.Fail) {
	t.Helper()
	if got, f := csv.All(s); !same(got, all) || f != fail {
		t.Errorf("All(%.80q) = %.80q, %v; want %.80q, %v", s, got, f, all, fail)
	}
	checkText(t, s)
}

// 6.2: texts without a row, with empty rows, with and without a line's end behind the last row; empty fields at each place.
func TestRows(t *testing.T) {
	for _, x := range []struct {
		s   string
		all rows
	}{
		{"", nil},
		{"\r\n", rows{{""}}},
		{"\r\n\r\n", rows{{""}, {""}}},
		{"a", rows{{"a"}}},
		{"a\r\n", rows{{"a"}}},
		{"a\r\n\r\n", rows{{"a"}, {""}}},
		{"\r\na", rows{{""}, {"a"}}},
		{"a\r\nb", rows{{"a"}, {"b"}}},
		{"a\r\nb\r\n", rows{{"a"}, {"b"}}},
		{"a\r\n\r\n\r\nb\r\n", rows{{"a"}, {""}, {""}, {"b"}}},
		{",", rows{{"", ""}}},
		{",\r\n", rows{{"", ""}}},
		{",,", rows{{"", "", ""}}},
		{"a,b\r\n,\r\n", rows{{"a", "b"}, {"", ""}}},
		{",a,b", rows{{"", "a", "b"}}},
		{"a,,b", rows{{"a", "", "b"}}},
		{"a,b,", rows{{"a", "b", ""}}},
		{"a,b,\r\n,c", rows{{"a", "b", ""}, {"", "c"}}},
		{"a\r\n,", rows{{"a"}, {"", ""}}},
		{`""`, rows{{""}}},
		{"\"\"\r\n", rows{{""}}},
		{`"",""`, rows{{"", ""}}},
		{`,"",`, rows{{"", "", ""}}},
		{"open,a,5\r\nclose,a\r\n", rows{{"open", "a", "5"}, {"close", "a"}}},
	} {
		checkAll(t, x.s, x.all, api.Fail{})
	}
}

// 6.2: fields with quotes and without: what stands for itself, and what stands so between quotes alone.
func TestFieldsThatAreRead(t *testing.T) {
	for _, x := range []struct {
		s   string
		all rows
	}{
		{`a,"b""c"`, rows{{"a", `b"c`}}},
		{`"a"`, rows{{"a"}}},
		{`"a,b",c`, rows{{"a,b", "c"}}},
		{"\"a\r\nb\",\"\"\r\nc", rows{{"a\r\nb", ""}, {"c"}}},
		{"\"\r\n\"\r\n", rows{{"\r\n"}}},
		{"\"\r\",\"\n\"", rows{{"\r", "\n"}}},
		{`""""`, rows{{`"`}}},
		{`""""""`, rows{{`""`}}},
		{`"a"""`, rows{{`a"`}}},
		{`"""a"`, rows{{`"a`}}},
		{`"""",""""`, rows{{`"`, `"`}}},
		{`""",""",b`, rows{{`","`, "b"}}},
		{" a , b ", rows{{" a ", " b "}}},
		{`" a ", b`, rows{{" a ", " b"}}},
		{" !#$%&'()*+-./:;<=>?@[\\]^_`{|}~", rows{{" !#$%&'()*+-./:;<=>?@[\\]^_`{|}~"}}},
		{`a\,\b`, rows{{`a\`, `\b`}}},
		{"\"\x00\x1f\x7f\x80\xff\xc3\xa9\"", rows{{"\x00\x1f\x7f\x80\xff\xc3\xa9"}}},
		{quoted(allBytes) + ",b", rows{{allBytes, "b"}}},
		{quoted(allBytes) + "\r\n" + quoted(allBytes), rows{{allBytes}, {allBytes}}},
	} {
		checkAll(t, x.s, x.all, api.Fail{})
	}
}

// 6.1, 6.2: quotes that are wrong: in a field that begins with none, without an end, and with something behind the end.
func TestErrQuote(t *testing.T) {
	for _, x := range []struct {
		s    string
		all  rows
		fail api.Fail
	}{
		{`a"b`, nil, at(api.ErrQuote, 1, 1)},
		{`a"`, nil, at(api.ErrQuote, 1, 1)},
		{`a""`, nil, at(api.ErrQuote, 1, 1)},
		{` "a"`, nil, at(api.ErrQuote, 1, 1)},
		{`x,a"b",c`, nil, at(api.ErrQuote, 1, 2)},
		{`"`, nil, at(api.ErrQuote, 1, 1)},
		{`"a`, nil, at(api.ErrQuote, 1, 1)},
		{`"a""`, nil, at(api.ErrQuote, 1, 1)},
		{`"""`, nil, at(api.ErrQuote, 1, 1)},
		{"\"a\r\nb,c\r\n", nil, at(api.ErrQuote, 1, 1)},
		{"a\r\nb,\"c", rows{{"a"}}, at(api.ErrQuote, 2, 2)},
		{"a\r\n\"", rows{{"a"}}, at(api.ErrQuote, 2, 1)},
		{`"a"b`, nil, at(api.ErrQuote, 1, 1)},
		{`"a" `, nil, at(api.ErrQuote, 1, 1)},
		{`"a" ,b`, nil, at(api.ErrQuote, 1, 1)},
		{"\"a\"\r", nil, at(api.ErrQuote, 1, 1)},
		{"\"a\"\n", nil, at(api.ErrQuote, 1, 1)},
		{"\"a\"\rb", nil, at(api.ErrQuote, 1, 1)},
		{"\"a\"\r\r\n", nil, at(api.ErrQuote, 1, 1)},
		{"\"a\"\n\r\n", nil, at(api.ErrQuote, 1, 1)},
		{"\"a\"\x80", nil, at(api.ErrQuote, 1, 1)},
		{"a,b\r\n\r\nc,d,\"e\"\"\"f\r\ng", rows{{"a", "b"}, {""}}, at(api.ErrQuote, 3, 3)},
	} {
		checkAll(t, x.s, x.all, x.fail)
	}
}

// 6.1, 6.2: bytes that may not stand, 13 without 10 and 10 alone among them.
func TestErrText(t *testing.T) {
	for _, x := range []struct {
		s    string
		all  rows
		fail api.Fail
	}{
		{"\n", nil, at(api.ErrText, 1, 1)},
		{"\r", nil, at(api.ErrText, 1, 1)},
		{"\n\r", nil, at(api.ErrText, 1, 1)},
		{"\r\r\n", nil, at(api.ErrText, 1, 1)},
		{"a\n", nil, at(api.ErrText, 1, 1)},
		{"a\r", nil, at(api.ErrText, 1, 1)},
		{"a\rb", nil, at(api.ErrText, 1, 1)},
		{"a,b\n", nil, at(api.ErrText, 1, 2)},
		{"a,\r", nil, at(api.ErrText, 1, 2)},
		{"a,\nb", nil, at(api.ErrText, 1, 2)},
		{"a\r\n\n", rows{{"a"}}, at(api.ErrText, 2, 1)},
		{"a\r\nb\r", rows{{"a"}}, at(api.ErrText, 2, 1)},
		{"x,y,\x80", nil, at(api.ErrText, 1, 3)},
		{"\x00", nil, at(api.ErrText, 1, 1)},
		{"a\tb", nil, at(api.ErrText, 1, 1)},
		{"\x1f", nil, at(api.ErrText, 1, 1)},
		{"\x7f", nil, at(api.ErrText, 1, 1)},
		{"\xff", nil, at(api.ErrText, 1, 1)},
		{"a,b\u00e9,c", nil, at(api.ErrText, 1, 2)},
		{"\ufeffa", nil, at(api.ErrText, 1, 1)},
		{"a\r\nb,c\r\nd,e,f\x7f\r\n", rows{{"a"}, {"b", "c"}}, at(api.ErrText, 3, 3)},
	} {
		checkAll(t, x.s, x.all, x.fail)
	}
}

// 6.1, 6.2: fields of 4096 bytes, and of 4097; a quote that stands twice is one byte.
func TestErrLong(t *testing.T) {
	for _, x := range []struct {
		s    string
		all  rows
		fail api.Fail
	}{
		{long, rows{{long}}, api.Fail{}},
		{long + "," + long + "\r\n" + long, rows{{long, long}, {long}}, api.Fail{}},
		{quoted(long), rows{{long}}, api.Fail{}},
		{quoted(quotes), rows{{quotes}}, api.Fail{}},
		{quoted(quotes) + ",\r\n", rows{{quotes, ""}}, api.Fail{}},
		{tooLong, nil, at(api.ErrLong, 1, 1)},
		{tooLong + "\r\n", nil, at(api.ErrLong, 1, 1)},
		{tooLong + ",a", nil, at(api.ErrLong, 1, 1)},
		{"a," + tooLong, nil, at(api.ErrLong, 1, 2)},
		{"a\r\n" + long + "," + tooLong + ",b\r\n", rows{{"a"}}, at(api.ErrLong, 2, 2)},
		{quoted(tooLong), nil, at(api.ErrLong, 1, 1)},
		{quoted(quotes + `"`), nil, at(api.ErrLong, 1, 1)},
		{"a," + quoted(quotes+"a") + ",b", nil, at(api.ErrLong, 1, 2)},
		{strings.Repeat("x", 1<<20), nil, at(api.ErrLong, 1, 1)},
		{quoted(strings.Repeat("\r\n", 1<<19)), nil, at(api.ErrLong, 1, 1)},
	} {
		checkAll(t, x.s, x.all, x.fail)
	}
}

// 6.1: which is told, where a field has several wrongs; the first field's, where several fields have some.
func TestWhichIsTold(t *testing.T) {
	for _, x := range []struct {
		s    string
		fail api.Fail
	}{
		{tooLong + `"`, at(api.ErrQuote, 1, 1)},
		{tooLong + "\"\n", at(api.ErrQuote, 1, 1)},
		{tooLong + "\n", at(api.ErrLong, 1, 1)},
		{tooLong + "\r", at(api.ErrLong, 1, 1)},
		{tooLong + "\x80\"", at(api.ErrLong, 1, 1)},
		{long + "\x80" + long, at(api.ErrText, 1, 1)},
		{long + "\n", at(api.ErrText, 1, 1)},
		{"a\x80\"", at(api.ErrText, 1, 1)},
		{"\x80\"", at(api.ErrText, 1, 1)},
		{"\r\"", at(api.ErrText, 1, 1)},
		{"a\"\x80", at(api.ErrQuote, 1, 1)},
		{`"` + tooLong, at(api.ErrQuote, 1, 1)},
		{`"` + tooLong + `""`, at(api.ErrQuote, 1, 1)},
		{quoted(tooLong) + "b", at(api.ErrLong, 1, 1)},
		{quoted(tooLong) + "\n", at(api.ErrLong, 1, 1)},
		{quoted(long) + "b", at(api.ErrQuote, 1, 1)},
		{quoted(quotes) + "\x80", at(api.ErrQuote, 1, 1)},
		{"a\x80,b\"", at(api.ErrText, 1, 1)},
		{"a,\x80,b\",\"", at(api.ErrText, 1, 2)},
		{"a," + tooLong + ",\"", at(api.ErrLong, 1, 2)},
		{"a,b\",\x80\r\n", at(api.ErrQuote, 1, 2)},
		{"a\n\r\n\"b", at(api.ErrText, 1, 1)},
	} {
		checkAll(t, x.s, nil, x.fail)
	}
}

// 6.1: a reader row by row, its Row and Rest behind each; behind what is wrong it tells nothing more, though rows stand there.
func TestReader(t *testing.T) {
	r := csv.New("a,\"b\"\r\n\r\n\"c\r\n\"\r\nd,e\nf\r\ng\r\n")
	for i, x := range []struct {
		row  []string
		rest int
	}{
		{[]string{"a", "b"}, 19},
		{[]string{""}, 17},
		{[]string{"c\r\n"}, 10},
	} {
		if row, ok := r.Next(); !slices.Equal(row, x.row) || !ok {
			t.Fatalf("row %d is %q, %v", i+1, row, ok)
		}
		if r.Row() != i+1 || r.Rest() != x.rest || r.Fail() != (api.Fail{}) {
			t.Fatalf("behind row %d: %d, %d, %v", i+1, r.Row(), r.Rest(), r.Fail())
		}
	}
	for range 3 {
		if row, ok := r.Next(); len(row) != 0 || ok {
			t.Fatalf("behind what is wrong: %q, %v", row, ok)
		}
		if r.Row() != 3 || r.Rest() != 10 || r.Fail() != at(api.ErrText, 4, 2) {
			t.Fatalf("behind what is wrong: %d, %d, %v", r.Row(), r.Rest(), r.Fail())
		}
	}
}

// 6.1: readers of one text know nothing of one another.
func TestReadersApart(t *testing.T) {
	const text = "a\r\nb\r\n\""
	first, second := csv.New(text), csv.New(text)
	first.Next()
	first.Next()
	first.Next()
	if second.Row() != 0 || second.Rest() != len(text) || second.Fail() != (api.Fail{}) {
		t.Fatalf("a reader tells %d, %d, %v of what another one read", second.Row(), second.Rest(), second.Fail())
	}
	if row, ok := second.Next(); !slices.Equal(row, []string{"a"}) || !ok {
		t.Fatalf("a reader tells %q, %v behind another one", row, ok)
	}
	if first.Row() != 2 || first.Rest() != 1 || first.Fail() != at(api.ErrQuote, 3, 1) {
		t.Fatalf("%d, %d, %v behind another one's row", first.Row(), first.Rest(), first.Fail())
	}
}

// Of a nil reader: nothing, false, zero. (Row and Rest come by embedding: R1 promises them of readers that New made.)
func TestNilReader(t *testing.T) {
	var r *csv.Reader
	for range 2 {
		if row, ok := r.Next(); len(row) != 0 || ok {
			t.Errorf("a nil reader's Next = %q, %v", row, ok)
		}
		if f := r.Fail(); f != (api.Fail{}) {
			t.Errorf("a nil reader's Fail = %v", f)
		}
	}
}

// 6.2: each byte alone, at a field's beginning, in it, at its end, between quotes, and behind them.
func TestEachByte(t *testing.T) {
	for c := range 256 {
		b := string([]byte{byte(c)})
		for _, s := range []string{b, b + "a", "a" + b + "a", "a" + b, "a," + b + ",a", b + "\r\n", "\r\n" + b, "\r" + b, b + "\n", `"` + b, `"a` + b + `"`, `"a"` + b, `"a"` + b + `"`} {
			checkText(t, s)
		}
		want := rows{{b, "a" + b}}
		if got, f := csv.All(quoted(b) + "," + quoted("a"+b)); !same(got, want) || f != (api.Fail{}) {
			t.Errorf("byte %d between quotes: %q, %v", c, got, f)
		}
		if got, f := csv.All(b + b); mayStand(byte(c)) && (!same(got, rows{{b + b}}) || f != (api.Fail{})) {
			t.Errorf("byte %d without quotes: %q, %v", c, got, f)
		}
	}
}

// 6.1, 6.2: all texts of up to seven of the bytes that mean something.
func TestEachShortText(t *testing.T) {
	all := []string{""}
	checkText(t, "")
	for range 7 {
		var longer []string
		for _, s := range all {
			for _, b := range []string{"a", ",", `"`, "\r", "\n", "\x80"} {
				longer = append(longer, s+b)
				checkText(t, s+b)
			}
		}
		all = longer
	}
}

// 6.1, 6.2: long texts of many rows: the rows ahead of the one that is wrong, and its number.
func TestManyRows(t *testing.T) {
	var all rows
	for i := range 5000 {
		all = append(all, []string{"a", strings.Repeat(`"`, i%7), strings.Repeat("b,", i%5), ""})
	}
	text := lines(all)
	checkAll(t, text, all, api.Fail{})
	checkAll(t, text[:len(text)-2], all, api.Fail{})
	checkAll(t, text+"a,b,c,\"d", all, at(api.ErrQuote, 5001, 4))
	checkAll(t, text+"a,b\r\nc\n"+text, append(slices.Clone(all), []string{"a", "b"}), at(api.ErrText, 5002, 1))
	wide := slices.Repeat([]string{"x"}, 5000)
	checkAll(t, csv.Line(wide...), rows{wide}, api.Fail{})
	checkAll(t, strings.TrimSuffix(csv.Line(wide...), "\r\n")+",\t", nil, at(api.ErrText, 1, 5001))
}

// 6.3: how fields are written.
func TestField(t *testing.T) {
	for s, want := range map[string]string{
		"":                     "",
		"a":                    "a",
		" a ":                  " a ",
		" !#$%&'()*+-./:;<=>?": " !#$%&'()*+-./:;<=>?",
		"@[\\]^_`{|}~":         "@[\\]^_`{|}~",
		",":                    `","`,
		"b,c":                  `"b,c"`,
		`"`:                    `""""`,
		`""`:                   `""""""`,
		`d"`:                   `"d"""`,
		`"d`:                   `"""d"`,
		`a"b"c`:                `"a""b""c"`,
		"\r":                   "\"\r\"",
		"\n":                   "\"\n\"",
		"\r\n":                 "\"\r\n\"",
		"a\r\nb":               "\"a\r\nb\"",
		"\x01":                 "\"\x01\"",
		"\x7f":                 "\"\x7f\"",
		"a\x80":                "\"a\x80\"",
		"\u00e9":               "\"\u00e9\"",
		long:                   long,
		tooLong:                tooLong,
		quotes:                 `"` + quotes + quotes + `"`,
		tooLong + ",":          `"` + tooLong + `,"`,
		allBytes:               quoted(allBytes),
	} {
		if got := csv.Field(s); got != want {
			t.Errorf("Field(%.80q) = %.80q; want %.80q", s, got, want)
		}
	}
	for c := range 256 {
		b := string([]byte{byte(c)})
		for _, s := range []string{b, "a" + b, b + "a", "a" + b + "a"} {
			want := s
			if !mayStand(byte(c)) {
				want = quoted(s)
			}
			if got := csv.Field(s); got != want {
				t.Errorf("Field(%q) = %q; want %q", s, got, want)
			}
		}
	}
}

// 6.3: how rows are written, with no field at all, too.
func TestLine(t *testing.T) {
	for _, x := range []struct {
		row  []string
		want string
	}{
		{nil, ""},
		{[]string{}, ""},
		{[]string{""}, "\r\n"},
		{[]string{"", ""}, ",\r\n"},
		{[]string{"a"}, "a\r\n"},
		{[]string{"a", "b"}, "a,b\r\n"},
		{[]string{"", "a", "", "b", ""}, ",a,,b,\r\n"},
		{[]string{"a", "b,c", "", `d"`, "\x01"}, "a,\"b,c\",,\"d\"\"\",\"\x01\"\r\n"},
		{[]string{"\r\n"}, "\"\r\n\"\r\n"},
		{[]string{"open", "a", "5"}, "open,a,5\r\n"},
		{[]string{tooLong, ","}, tooLong + ",\",\"\r\n"},
	} {
		given := slices.Clone(x.row)
		if got := csv.Line(x.row...); got != x.want {
			t.Errorf("Line(%.80q) = %.80q; want %.80q", x.row, got, x.want)
		}
		if !slices.Equal(x.row, given) {
			t.Errorf("Line changed %.80q to %.80q", given, x.row)
		}
	}
	if got := csv.Line(); got != "" {
		t.Errorf("Line() = %q", got)
	}
}

// checkBack holds that rows that were written are read as they were: with the last line's end, and, where a byte stands in the last row, without.
func checkBack(t *testing.T, l rows) {
	t.Helper()
	text := lines(l)
	if got, f := csv.All(text); !same(got, l) || f != (api.Fail{}) {
		t.Fatalf("the rows %.80q are read as %.80q, %v", l, got, f)
	}
	open := strings.TrimSuffix(text, "\r\n")
	if open == "" || strings.HasSuffix(open, "\r\n") {
		return
	}
	if got, f := csv.All(open); !same(got, l) || f != (api.Fail{}) {
		t.Fatalf("the rows %.80q, without the last line's end, are read as %.80q, %v", l, got, f)
	}
}

// 6.4: rows of up to three fields, and up to three rows of fields, of each that means something.
func TestWrittenRowsAreRead(t *testing.T) {
	fields := []string{"", "a", ",", `"`, `""`, "\r\n", "\r", "\n", "\x80,\"", " ", long, quotes}
	all := rows{{}}
	for i := 0; i < len(all) && len(all[i]) < 3; i++ {
		for _, s := range fields {
			all = append(all, append(slices.Clone(all[i]), s))
		}
	}
	checkBack(t, nil)
	for _, row := range all[1:] {
		checkBack(t, rows{row})
		checkBack(t, rows{{"a"}, row, {""}, row})
	}
	checkBack(t, all[1:len(fields)*len(fields)])
	if got, f := csv.All(csv.Line("a") + csv.Line() + csv.Line("b")); !same(got, rows{{"a"}, {"b"}}) || f != (api.Fail{}) {
		t.Errorf("no fields between rows: %q, %v", got, f)
	}
}

// 6.2, 6.4: rows of any bytes, each field between quotes or as Field has it, are read as they were; of one too long the row and the field are told.
func TestRowsOfAnyBytes(t *testing.T) {
	r := rand.New(rand.NewSource(6))
	for range 3000 {
		var l rows
		text := ""
		for range r.Intn(6) {
			row := anyRow(r)
			line := csv.Line(row...)
			if r.Intn(2) == 0 {
				line = quotedLine(row)
			}
			l, text = append(l, row), text+line
		}
		checkBack(t, l)
		checkAll(t, text, l, api.Fail{})
		row := append(anyRow(r), quotes+"a")
		checkAll(t, text+csv.Line(row...)+text, l, at(api.ErrLong, len(l)+1, len(row)))
	}
}

// anyRow is a row of some fields of any bytes, most of them such as mean something.
func anyRow(r *rand.Rand) []string {
	row := make([]string, 1+r.Intn(4))
	for i := range row {
		b := make([]byte, r.Intn(6))
		for k := range b {
			b[k] = "ab,\"\r\n\""[r.Intn(7)]
			if r.Intn(4) == 0 {
				b[k] = byte(r.Intn(256))
			}
		}
		row[i] = string(b)
	}
	return row
}

// quotedLine is a row with all its fields between quotes.
func quotedLine(row []string) string {
	var l []string
	for _, s := range row {
		l = append(l, quoted(s))
	}
	return strings.Join(l, ",") + "\r\n"
}

// What is answered is memory of its own: writing to a row is not seen in another one, nor in what is told later.
func TestAnswersAreNewMemory(t *testing.T) {
	const text = "a,b\r\nc,d\r\n\"e\"\"\",f\r\n"
	want := rows{{"a", "b"}, {"c", "d"}, {`e"`, "f"}}
	all, _ := csv.All(text)
	for _, row := range all {
		clear(row)
		_ = append(row, "x", "y")
	}
	for i := range all {
		if !slices.Equal(all[i], []string{"", ""}) {
			t.Fatalf("row %d is %q behind changes of the others", i+1, all[i])
		}
	}
	r := csv.New(text)
	for i, x := range want {
		row, ok := r.Next()
		if !slices.Equal(row, x) || !ok {
			t.Fatalf("row %d is %q, %v behind a change of the one ahead", i+1, row, ok)
		}
		clear(row)
		_ = append(row, "x")
	}
	if again, f := csv.All(text); !same(again, want) || f != (api.Fail{}) {
		t.Errorf("All = %q, %v behind a change of an earlier answer", again, f)
	}
}

func FuzzText(f *testing.F) {
	for _, s := range []string{"", "a,\"b\"\"c\"\r\n", "a\"", "\"a\"b", "a\rb", "\"\r\n\",\r\n,", long, quoted(quotes), quoted(tooLong)} {
		f.Add(s)
	}
	f.Fuzz(func(t *testing.T, s string) {
		checkText(t, s)
		all, fail := csv.All(s)
		checkBack(t, all)
		if fail == (api.Fail{}) {
			return
		}
		behind := csv.New(s)
		for range all {
			behind.Next()
		}
		_, again := csv.All(s[len(s)-behind.Rest():])
		again.Line += len(all)
		if again != fail {
			t.Fatalf("behind its rows %.60q is wrong by %v; as a whole by %v", s, again, fail)
		}
	})
}

func FuzzLine(f *testing.F) {
	f.Add("a", "b", "c")
	f.Add("", "\"", "\r\n")
	f.Add(quotes, long, ",")
	f.Fuzz(func(t *testing.T, a, b, c string) {
		row := []string{a, b, c}
		for i, s := range row {
			if len(s) > api.MaxStr {
				if got, f := csv.All(csv.Line(row...)); len(got) != 0 || f != at(api.ErrLong, 1, i+1) {
					t.Fatalf("a row with a field %d of %d bytes is read as %.60q, %v", i+1, len(s), got, f)
				}
				return
			}
		}
		checkBack(t, rows{row, {a}, {b, c}})
	})
}
