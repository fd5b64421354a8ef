package lex_test

import (
	"math/rand"
	"regexp"
	"slices"
	"strconv"
	"strings"
	"testing"

	"proctor/api"
	"proctor/lex"
	"proctor/quote"
)

// The words and the signs, as the chapters have them.
const (
	chapterWords = "accept, also, and, bool, do, event, exists, false, forall, free, if, int, next, not, on, or, qea, skip, start, string, to, true"
	chapterSigns = "== != <= >= < > = ( ) , : + - * / %"
)

// What stands in a text, said anew, straight from the chapter's words.
var (
	gap    = regexp.MustCompile(`\A(?:[ \t\n\r]|#[^\n]*)*`)
	run    = regexp.MustCompile(`\A[A-Za-z0-9_]+`)
	number = regexp.MustCompile(`\A(?:0|[1-9][0-9]*)\z`)
	digit  = regexp.MustCompile(`\A[0-9]`)
	sign   = regexp.MustCompile(`\A(?:[=!<>]=|[<>=(),:+*/%-])`)
	form   = regexp.MustCompile(`\A"(?:[ !#-\[\]-~]|\\["\\nrt]|\\x(?:0[0-8bcef]|1[0-9a-f]|7f|[89a-f][0-9a-f]))*"`)
)

// Names and numbers of as many bytes as they may have, and texts of as many as a quoted form may be of.
var (
	longName   = "n" + strings.Repeat("a_9Z", 7) + "end"
	longNumber = "1" + strings.Repeat("0", 30) + "9"
	longText   = "<" + strings.Repeat("x", api.MaxStr-2) + ">"
)

// token is a token, and its place.
func token(kind int, text string, line, col int) lex.Token {
	return lex.Token{Kind: kind, Text: text, Line: line, Col: col}
}

// fail is what is wrong, at which line and column.
func fail(e api.Errno, line, col int) api.Fail { return api.Fail{Err: e, Line: line, Col: col} }

// allWords are the words one by one, and allSigns the signs.
func allWords() []string { return strings.Split(chapterWords, ", ") }
func allSigns() []string { return strings.Split(chapterSigns, " ") }

// one is a text of one byte.
func one(c int) string { return string([]byte{byte(c)}) }

// wantToken says anew which token begins a text that is not empty, with no gap ahead, as how many bytes it stands, and what is wrong, if none does.
func wantToken(s string) (int, string, int, api.Errno) {
	if letters := run.FindString(s); letters != "" {
		switch {
		case digit.MatchString(letters) && !number.MatchString(letters):
			return 0, "", 0, api.ErrForm
		case len(letters) > 32:
			return 0, "", 0, api.ErrLong
		case digit.MatchString(letters):
			return 3, letters, len(letters), api.OK
		case slices.Contains(allWords(), letters):
			return 2, letters, len(letters), api.OK
		}
		return 1, letters, len(letters), api.OK
	}
	if s[0] == '"' {
		quoted := form.FindString(s)
		text, err := strconv.Unquote(quoted)
		switch {
		case err != nil:
			return 0, "", 0, api.ErrQuote
		case len(text) > 4096:
			return 0, "", 0, api.ErrLong
		}
		return 4, text, len(quoted), api.OK
	}
	if found := sign.FindString(s); found != "" {
		return 5, found, len(found), api.OK
	}
	return 0, "", 0, api.ErrText
}

// want says anew which tokens a text has, as which bytes each stands, and what is wrong; it finds places by going over the text byte by byte.
func want(s string) ([]lex.Token, []string, api.Fail) {
	if len(s) > 65536 {
		return nil, nil, fail(api.ErrLong, 1, 1)
	}
	var tokens []lex.Token
	var forms []string
	at, line, col := 0, 1, 1
	goOn := func(size int) {
		for ; size > 0; size-- {
			col++
			if s[at] == 10 {
				line, col = line+1, 1
			}
			at++
		}
	}
	for {
		goOn(len(gap.FindString(s[at:])))
		if at == len(s) {
			return tokens, forms, api.Fail{}
		}
		kind, text, size, e := wantToken(s[at:])
		if e != api.OK {
			return nil, nil, fail(e, line, col)
		}
		tokens, forms = append(tokens, token(kind, text, line, col)), append(forms, s[at:at+size])
		goOn(size)
	}
}

// check holds what is told of a text, and of its tokens, against the chapter's words, said anew.
func check(t *testing.T, s string) {
	t.Helper()
	tokens, forms, wrong := want(s)
	got, f := lex.All(s)
	if f != wrong || !slices.Equal(got, tokens) {
		t.Fatalf("All(%.200q) = %.200v, %v; want %.200v, %v", s, got, f, tokens, wrong)
	}
	for i := range got {
		if text := lex.Text(got[i]); text != forms[i] {
			t.Fatalf("Text(%.200v) = %.200q; want %.200q", got[i], text, forms[i])
		}
	}
	joined := lex.Join(got...)
	if joined != strings.Join(forms, " ") {
		t.Fatalf("Join(%.200v) = %.200q", got, joined)
	}
	checkAgain(t, joined, got)
}

// checkAgain holds the tokens of what was joined against those that it was joined of: 9.3.
func checkAgain(t *testing.T, joined string, tokens []lex.Token) {
	t.Helper()
	again, f := lex.All(joined)
	if len(joined) > 65536 {
		if f != fail(api.ErrLong, 1, 1) || again != nil {
			t.Fatalf("All of %d bytes joined = %.200v, %v", len(joined), again, f)
		}
		return
	}
	same := slices.EqualFunc(again, tokens, func(a, b lex.Token) bool { return a.Kind == b.Kind && a.Text == b.Text })
	if f != (api.Fail{}) || !same {
		t.Fatalf("All(%.200q) = %.200v, %v; it was joined of %.200v", joined, again, f, tokens)
	}
}

// checkTokens holds the tokens of a text against some that are written out, and all that is told of it against the words.
func checkTokens(t *testing.T, s string, tokens ...lex.Token) {
	t.Helper()
	got, f := lex.All(s)
	if f != (api.Fail{}) || !slices.Equal(got, tokens) {
		t.Errorf("All(%.200q) = %.200v, %v; want %.200v", s, got, f, tokens)
	}
	check(t, s)
}

// checkFail holds what is wrong with a text against an error at a place; no tokens are told then.
func checkFail(t *testing.T, s string, wrong api.Fail) {
	t.Helper()
	if got, f := lex.All(s); f != wrong || got != nil {
		t.Errorf("All(%.200q) = %.200v, %v; want %v", s, got, f, wrong)
	}
	check(t, s)
}

// The kinds have the numbers that the chapter gives them.
func TestKinds(t *testing.T) {
	if k := [...]int{lex.Name, lex.Word, lex.Number, lex.Quoted, lex.Sign}; k != [...]int{1, 2, 3, 4, 5} {
		t.Fatal(k)
	}
}

// 9.1: the chapter's example, and texts with tokens of each kind: with blanks, with remarks, and with nothing between.
func TestAll(t *testing.T) {
	checkTokens(t, "x<=-5", token(1, "x", 1, 1), token(5, "<=", 1, 2), token(5, "-", 1, 4), token(3, "5", 1, 5))
	checkTokens(t, "qea a # a remark\n  \"x\\n\" 10==_ #",
		token(2, "qea", 1, 1), token(1, "a", 1, 5), token(4, "x\n", 2, 3), token(3, "10", 2, 9), token(5, "==", 2, 11), token(1, "_", 2, 13))
	checkTokens(t, "a_1\"b\"or(2)", token(1, "a_1", 1, 1), token(4, "b", 1, 4), token(2, "or", 1, 7), token(5, "(", 1, 9), token(3, "2", 1, 10), token(5, ")", 1, 11))
	checkTokens(t, "\"\"\"\"", token(4, "", 1, 1), token(4, "", 1, 3))
	checkTokens(t, "\"a\"b\"c\"", token(4, "a", 1, 1), token(1, "b", 1, 4), token(4, "c", 1, 5))
	checkTokens(t, "1\"1\"1", token(3, "1", 1, 1), token(4, "1", 1, 2), token(3, "1", 1, 5))
	checkTokens(t, "a#b\nc#\n#d\n\"#\"#\"", token(1, "a", 1, 1), token(1, "c", 2, 1), token(4, "#", 4, 1))
	checkTokens(t, "event open(string, int)", token(2, "event", 1, 1), token(1, "open", 1, 7), token(5, "(", 1, 11), token(2, "string", 1, 12),
		token(5, ",", 1, 18), token(2, "int", 1, 20), token(5, ")", 1, 23))
	checkTokens(t, "forall x:int", token(2, "forall", 1, 1), token(1, "x", 1, 8), token(5, ":", 1, 9), token(2, "int", 1, 10))
	checkTokens(t, "-(3)*_/true%", token(5, "-", 1, 1), token(5, "(", 1, 2), token(3, "3", 1, 3), token(5, ")", 1, 4), token(5, "*", 1, 5),
		token(1, "_", 1, 6), token(5, "/", 1, 7), token(2, "true", 1, 8), token(5, "%", 1, 12))
}

// 9.1: texts of no byte, of blanks alone and of remarks alone have no tokens, with and without an end of line at the end.
func TestNoTokens(t *testing.T) {
	for _, s := range []string{
		"", " ", "\t", "\n", "\r", "\r\n", "\n\n", " \t\n\r ", "    ", "#", "# ", "#\n", "#\r", "#\r\n", "##", "#a", "#a\n", "# a b", " # a\n", "#a\n#b", "#a\n#b\n",
		"\n#", "\t#\"", "#\"\n", "# $ 01 \" \\", "#\x00\x80\xff\x7f\n", "#é", "#\v\f", "#" + strings.Repeat("x", 4097), "#" + longName + longName + "\n",
	} {
		if got, f := lex.All(s); f != (api.Fail{}) || got != nil {
			t.Errorf("All(%.60q) = %v, %v", s, got, f)
		}
		check(t, s)
	}
	for c := range 256 {
		check(t, "#"+one(c))
		check(t, "#"+one(c)+"\n")
		check(t, "#"+one(c)+"\na")
	}
}

// tokens are texts of one token each, of each kind.
func tokens() []string {
	some := []string{"a", "_", "_a", "__", "x1", "B_", longName, "0", "7", "10", longNumber, `""`, `"a"`, `"\""`, `"\\"`, `"#"`, `" "`, `"\n\x00\xff"`}
	return slices.Concat(some, allWords(), allSigns())
}

// 9.1: each token alone, and with blanks and remarks ahead of it and behind it; each two, with blanks, with remarks and with nothing between.
func TestTokensAndWhatIsBetween(t *testing.T) {
	gaps := []string{"", " ", "\t", "\n", "\r", "\r\n", "  ", "\n\n", " \t\r\n", "#\n", "# a\n", "#\"\n\t", " #\n#\n ", "\n# $\r\n"}
	for _, a := range tokens() {
		l, f := lex.All(a)
		if f != (api.Fail{}) || len(l) != 1 || l[0].Line != 1 || l[0].Col != 1 || lex.Text(l[0]) != a {
			t.Errorf("All(%q) = %v, %v", a, l, f)
		}
		for _, ahead := range gaps {
			for _, behind := range gaps {
				check(t, ahead+a+behind)
			}
			check(t, ahead+a+"#")
			check(t, a+"#"+ahead+a)
		}
		for _, b := range tokens() {
			for _, between := range gaps {
				check(t, a+between+b)
			}
		}
	}
}

// 9.1: each sign, and of signs of which one begins another the longer; a ! with no = behind it is none.
func TestSigns(t *testing.T) {
	for _, s := range allSigns() {
		checkTokens(t, s, token(5, s, 1, 1))
		checkTokens(t, "a"+s+"1", token(1, "a", 1, 1), token(5, s, 1, 2), token(3, "1", 1, 2+len(s)))
	}
	checkTokens(t, "<= =", token(5, "<=", 1, 1), token(5, "=", 1, 4))
	checkTokens(t, "< =", token(5, "<", 1, 1), token(5, "=", 1, 3))
	checkTokens(t, "===", token(5, "==", 1, 1), token(5, "=", 1, 3))
	checkTokens(t, "====", token(5, "==", 1, 1), token(5, "==", 1, 3))
	checkTokens(t, "=!=", token(5, "=", 1, 1), token(5, "!=", 1, 2))
	checkTokens(t, "=<", token(5, "=", 1, 1), token(5, "<", 1, 2))
	checkTokens(t, "=>=", token(5, "=", 1, 1), token(5, ">=", 1, 2))
	checkTokens(t, "<>", token(5, "<", 1, 1), token(5, ">", 1, 2))
	checkTokens(t, "<<==", token(5, "<", 1, 1), token(5, "<=", 1, 2), token(5, "=", 1, 4))
	checkTokens(t, "!==", token(5, "!=", 1, 1), token(5, "=", 1, 3))
	checkTokens(t, "--5", token(5, "-", 1, 1), token(5, "-", 1, 2), token(3, "5", 1, 3))
	checkTokens(t, "=#\n=", token(5, "=", 1, 1), token(5, "=", 2, 1))
	checkFail(t, "!", fail(api.ErrText, 1, 1))
	checkFail(t, "!!=", fail(api.ErrText, 1, 1))
	checkFail(t, "! =", fail(api.ErrText, 1, 1))
	checkFail(t, "a!", fail(api.ErrText, 1, 2))
	checkFail(t, "!=!", fail(api.ErrText, 1, 3))
	checkFail(t, "!\n=", fail(api.ErrText, 1, 1))
	checkFail(t, "=!<", fail(api.ErrText, 1, 2))
	const bytes = "=!<>-a "
	for n := range len(bytes) * len(bytes) * len(bytes) * len(bytes) * len(bytes) {
		s := ""
		for range 5 {
			s += bytes[n%len(bytes) : n%len(bytes)+1]
			n /= len(bytes)
		}
		check(t, s)
	}
}

// 9.1: names, of 32 bytes and of 33, _ alone and ahead of other letters; words, and texts that are nearly one.
func TestNamesAndWords(t *testing.T) {
	for _, s := range []string{"a", "Z", "_", "__", "___", "_a", "_0", "_9_", "a_", "a0", "aB_9", "If", "TRUE", "or_", "_or", "or1", "oror", "tru", "truee", "xtrue", "integer", "star", "starts", "i", "qe", longName} {
		checkTokens(t, s, token(1, s, 1, 1))
	}
	for _, s := range allWords() {
		checkTokens(t, s, token(2, s, 1, 1))
		for _, near := range []string{s + "_", "_" + s, s + "0", s + s, "x" + s, s + "x", strings.ToUpper(s), strings.ToUpper(s[:1]) + s[1:]} {
			checkTokens(t, near, token(1, near, 1, 1))
		}
		for n := range len(s) {
			check(t, s[:n])
			check(t, s[n:])
			check(t, s[:n]+" "+s[n:])
		}
	}
	if len(longName) != 32 {
		t.Fatal(len(longName))
	}
	for _, s := range []string{longName + "x", longName + "9", longName + "_", "_" + longName, strings.Repeat("_", 33), "if" + longName[1:], longName + longName, strings.Repeat("a", 60000)} {
		checkFail(t, s, fail(api.ErrLong, 1, 1))
		checkFail(t, "a "+s+" 01", fail(api.ErrLong, 1, 3))
		checkFail(t, "\n("+s, fail(api.ErrLong, 2, 2))
	}
	checkTokens(t, strings.Repeat("_", 32), token(1, strings.Repeat("_", 32), 1, 1))
	checkTokens(t, longName+" x", token(1, longName, 1, 1), token(1, "x", 1, 34))
	checkTokens(t, longName+"-x", token(1, longName, 1, 1), token(5, "-", 1, 33), token(1, "x", 1, 34))
}

// 9.1: numbers of one digit and of several, of 32 and of 33; with a 0 ahead, or letters or _ behind, they are none, however long.
func TestNumbers(t *testing.T) {
	for _, s := range []string{"0", "1", "9", "10", "90", "123456789", "9223372036854775807", "9223372036854775808", longNumber, strings.Repeat("9", 32)} {
		checkTokens(t, s, token(3, s, 1, 1))
		checkTokens(t, "-"+s, token(5, "-", 1, 1), token(3, s, 1, 2))
		checkTokens(t, s+" "+s, token(3, s, 1, 1), token(3, s, 1, len(s)+2))
	}
	if len(longNumber) != 32 {
		t.Fatal(len(longNumber))
	}
	for _, s := range []string{longNumber + "0", "1" + longNumber, strings.Repeat("1", 33), strings.Repeat("7", 65536)} {
		checkFail(t, s, fail(api.ErrLong, 1, 1))
	}
	for _, s := range []string{
		"00", "01", "09", "000", "0_", "0a", "0x1", "1a", "1_", "1_000", "12ab34", "9Z", "1e5", "5if", "5true", "0" + longNumber[1:], "0" + longNumber, strings.Repeat("0", 32), strings.Repeat("0", 33),
		longNumber + "a", longNumber + "0a", longNumber + longNumber + "_", longNumber + "_", "1" + longName, "0" + longName, "0_" + longName,
	} {
		checkFail(t, s, fail(api.ErrForm, 1, 1))
		checkFail(t, "a "+s, fail(api.ErrForm, 1, 3))
		checkFail(t, "-"+s+" $", fail(api.ErrForm, 1, 2))
	}
	checkFail(t, "1.5", fail(api.ErrText, 1, 2))
	checkFail(t, longNumber+"0$", fail(api.ErrLong, 1, 1))
	checkTokens(t, "a0 0", token(1, "a0", 1, 1), token(3, "0", 1, 4))
	checkTokens(t, "0+0", token(3, "0", 1, 1), token(5, "+", 1, 2), token(3, "0", 1, 3))
	checkTokens(t, "0\n1", token(3, "0", 1, 1), token(3, "1", 2, 1))
}

// formOf is how one byte stands in a quoted form.
func formOf(c int) string {
	quoted := quote.Quote(one(c))
	return quoted[1 : len(quoted)-1]
}

// 9.1, 9.2: quoted forms of no byte, with each byte's form, and with several.
func TestQuoted(t *testing.T) {
	checkTokens(t, `""`, token(4, "", 1, 1))
	checkTokens(t, `"a b"`, token(4, "a b", 1, 1))
	checkTokens(t, `"a\"\x00"`, token(4, "a\"\x00", 1, 1))
	checkTokens(t, `"# no remark"`, token(4, "# no remark", 1, 1))
	checkTokens(t, `"true" true`, token(4, "true", 1, 1), token(2, "true", 1, 8))
	checkTokens(t, `"\\"")"`, token(4, `\`, 1, 1), token(4, ")", 1, 5))
	checkTokens(t, `"\"\"\""`, token(4, `"""`, 1, 1))
	checkTokens(t, `"\n" a`, token(4, "\n", 1, 1), token(1, "a", 1, 6))
	all, forms := "", ""
	for c := range 256 {
		checkTokens(t, `"`+formOf(c)+`"`, token(4, one(c), 1, 1))
		checkTokens(t, `("x`+formOf(c)+`y")`, token(5, "(", 1, 1), token(4, "x"+one(c)+"y", 1, 2), token(5, ")", 1, len(formOf(c))+6))
		all, forms = all+one(c), forms+formOf(c)
	}
	checkTokens(t, `"`+forms+`"`, token(4, all, 1, 1))
}

// 9.1: forms that may not be, that are not ended, or have an end of line in them: what is wrong is told of the place of the quote with which they begin.
func TestWrongQuoted(t *testing.T) {
	for _, s := range []string{
		`"`, `"a`, `"\`, `"\"`, `"\\\"`, `"\x`, `"\x0`, `"\x00`, `"\x"`, `"\x0"`, `"\a"`, `"\0"`, `"\'"`, `"\ "`, `"\N"`, `"\u0041"`, `"\X00"`,
		`"\x41"`, `"\x20"`, `"\x22"`, `"\x5c"`, `"\x7e"`, `"\x0a"`, `"\x0d"`, `"\x09"`, `"\xFF"`, `"\x0A"`, `"\xg0"`, `"\x0g"`, `"\n`, `"\x00a`,
		"\"\n\"", "\"a\nb\"", "\"\r\"", "\"\t\"", "\"\x00\"", "\"\x1f\"", "\"\x7f\"", "\"\x80\"", "\"\xff\"", "\"é\"", "\"a\\\n\"", "\"a\n", "\"\r\n\"", `"` + strings.Repeat("a", 5000), `"` + strings.Repeat("a", 5000) + "\n\"",
	} {
		checkFail(t, s, fail(api.ErrQuote, 1, 1))
		checkFail(t, "a\n b "+s, fail(api.ErrQuote, 2, 4))
	}
	checkFail(t, `"""`, fail(api.ErrQuote, 1, 3))
	checkFail(t, `"a""`, fail(api.ErrQuote, 1, 4))
	checkFail(t, `"a" "`, fail(api.ErrQuote, 1, 5))
	checkFail(t, `"a"\"`, fail(api.ErrText, 1, 4))
	for c := range 256 {
		if formOf(c) != one(c) && c != '"' {
			checkFail(t, `"`+one(c)+`"`, fail(api.ErrQuote, 1, 1))
			checkFail(t, `a"b`+one(c)+`c"`, fail(api.ErrQuote, 1, 2))
		}
	}
}

// 9.1: quoted forms at the bound of their length and beyond it; the bound is of the text's bytes, whatever they stand as. One that is not ended is no form that is too long.
func TestLongQuoted(t *testing.T) {
	for c := range 256 {
		text := strings.Repeat(one(c), api.MaxStr)
		quoted := `"` + strings.Repeat(formOf(c), api.MaxStr) + `"`
		if l, f := lex.All(quoted); f != (api.Fail{}) || len(l) != 1 || l[0] != token(4, text, 1, 1) || lex.Text(l[0]) != quoted {
			t.Fatalf("4096 times byte %d: %.60v, %v", c, l, f)
		}
		more := quoted[:len(quoted)-1] + formOf(c) + `"`
		if l, f := lex.All("a " + more + " $"); f != fail(api.ErrLong, 1, 3) || l != nil {
			t.Fatalf("4097 times byte %d: %.60v, %v", c, l, f)
		}
		if l, f := lex.All(more[:len(more)-1]); f != fail(api.ErrQuote, 1, 1) || l != nil {
			t.Fatalf("4097 times byte %d, not ended: %.60v, %v", c, l, f)
		}
	}
	checkTokens(t, `"`+longText+`"a`, token(4, longText, 1, 1), token(1, "a", 1, 4099))
	checkTokens(t, `"`+longText[1:]+`\x00"`, token(4, longText[1:]+"\x00", 1, 1))
	checkFail(t, `"`+longText+`x"`, fail(api.ErrLong, 1, 1))
	checkFail(t, `"`+longText+`\x00"`, fail(api.ErrLong, 1, 1))
	checkFail(t, `"`+longText+longText+`" "`, fail(api.ErrLong, 1, 1))
	checkFail(t, `"`+longText+`x\q"`, fail(api.ErrQuote, 1, 1))
	checkFail(t, `"`+longText+"x\n\"", fail(api.ErrQuote, 1, 1))
	checkFail(t, "\n  \""+longText+longText+`"`, fail(api.ErrLong, 2, 3))
}

// 9.1: bytes with which no token begins, at the beginning, in the middle and at the end.
func TestOtherBytes(t *testing.T) {
	const begin = "_\"=<>(),:+-*/% \t\n\r#"
	for c := range 256 {
		letter := c >= 'a' && c <= 'z' || c >= 'A' && c <= 'Z' || c >= '0' && c <= '9'
		if !letter && strings.IndexByte(begin, byte(c)) < 0 {
			checkFail(t, one(c), fail(api.ErrText, 1, 1))
			checkFail(t, one(c)+"a", fail(api.ErrText, 1, 1))
			checkFail(t, "a b"+one(c)+"c", fail(api.ErrText, 1, 4))
			checkFail(t, "a\n("+one(c), fail(api.ErrText, 2, 2))
			checkFail(t, "\"\""+one(c)+"\"", fail(api.ErrText, 1, 3))
			checkFail(t, "0"+one(c)+"1", fail(api.ErrText, 1, 2))
		}
		for b := range 256 {
			check(t, one(c)+one(b))
		}
		check(t, "a"+one(c)+"b")
		check(t, "a "+one(c)+" b")
	}
	for _, s := range []string{"é", "\u00a0", "\u2028", "\ufeffqea", "\u0661", "\uff21", "\xff\xfe", ";", "&&", "|", ".", "'a'", "`a`", "[", "{", "@", "~", "^", "?", "\\", "$a", "\x00", "\v", "\f", "\x7f"} {
		checkFail(t, s, fail(api.ErrText, 1, 1))
		checkFail(t, "# a\n  a"+s, fail(api.ErrText, 2, 4))
	}
}

// 9.1: places, of tokens and of what is wrong: a line more behind each byte 10 alone; columns are bytes, of 9 and 13, too.
func TestPlaces(t *testing.T) {
	checkTokens(t, "a\nb", token(1, "a", 1, 1), token(1, "b", 2, 1))
	checkTokens(t, "\na", token(1, "a", 2, 1))
	checkTokens(t, "\n\n\n a", token(1, "a", 4, 2))
	checkTokens(t, "a\r\nb", token(1, "a", 1, 1), token(1, "b", 2, 1))
	checkTokens(t, "a\rb", token(1, "a", 1, 1), token(1, "b", 1, 3))
	checkTokens(t, "\n\rb", token(1, "b", 2, 2))
	checkTokens(t, "\ta\t\tb", token(1, "a", 1, 2), token(1, "b", 1, 5))
	checkTokens(t, "#a\nb", token(1, "b", 2, 1))
	checkTokens(t, "# a\r\n\t# b\n\t c", token(1, "c", 3, 3))
	checkTokens(t, "#é\x80\n a", token(1, "a", 2, 2))
	checkTokens(t, "aa bb\ncc  dd", token(1, "aa", 1, 1), token(1, "bb", 1, 4), token(1, "cc", 2, 1), token(1, "dd", 2, 5))
	checkTokens(t, "\"\\n\"a\n\"\\\"\"a", token(4, "\n", 1, 1), token(1, "a", 1, 5), token(4, "\"", 2, 1), token(1, "a", 2, 5))
	checkTokens(t, "<=\n >=", token(5, "<=", 1, 1), token(5, ">=", 2, 2))
	checkTokens(t, strings.Repeat("\n", 65535)+"a", token(1, "a", 65536, 1))
	checkTokens(t, strings.Repeat(" ", 65535)+"a", token(1, "a", 1, 65536))
	checkTokens(t, "#"+strings.Repeat("x", 65533)+"\na", token(1, "a", 2, 1))
	checkFail(t, "\n a $", fail(api.ErrText, 2, 4))
	checkFail(t, "a\n!", fail(api.ErrText, 2, 1))
	checkFail(t, "a\r\n\t01", fail(api.ErrForm, 2, 2))
	checkFail(t, "a\r\"", fail(api.ErrQuote, 1, 3))
	checkFail(t, "#\n#\n#\n   "+longName+"_", fail(api.ErrLong, 4, 4))
	checkFail(t, "\"\\n\\n\" $", fail(api.ErrText, 1, 8))
	checkFail(t, "a b c\n\nd\n \"\n\"", fail(api.ErrQuote, 4, 2))
	checkFail(t, strings.Repeat("\n", 65535)+"$", fail(api.ErrText, 65536, 1))
}

// 9.1: of texts that are wrong at several places the first is told, whatever is wrong there.
func TestFirstWrong(t *testing.T) {
	wrongs := []struct {
		s string
		e api.Errno
	}{
		{"01", api.ErrForm}, {"1b", api.ErrForm}, {longName + "x", api.ErrLong}, {longNumber + "1", api.ErrLong}, {`"` + longText + `x"`, api.ErrLong},
		{"\"\n", api.ErrQuote}, {`"\q`, api.ErrQuote}, {"$", api.ErrText}, {"!", api.ErrText}, {"\x80", api.ErrText},
	}
	for _, a := range wrongs {
		checkFail(t, a.s, fail(a.e, 1, 1))
		for _, b := range wrongs {
			checkFail(t, a.s+" "+b.s, fail(a.e, 1, 1))
			checkFail(t, a.s+"\n"+b.s, fail(a.e, 1, 1))
			checkFail(t, "a (\n b "+a.s+" c "+b.s, fail(a.e, 2, 4))
			checkFail(t, "# "+b.s[:1]+"\n"+a.s+" # "+b.s, fail(a.e, 2, 1))
		}
	}
}

// 9.1: texts of as many bytes as one may have, and of one more: then ErrLong is told at 1, 1, ahead of all.
func TestLongTexts(t *testing.T) {
	for _, s := range []string{" ", "\n", "#", "(", "_ ", "0-", "\"\"", "a=1\n", "\"\\x00\"\r\n", "# a\n", "<="} {
		whole := strings.Repeat(s, 65536/len(s))
		whole += strings.Repeat(" ", 65536-len(whole))
		if l, f := lex.All(whole); f != (api.Fail{}) || s == "(" && len(l) != 65536 || s == "<=" && len(l) != 32768 {
			t.Fatalf("65536 bytes of %q: %d tokens, %v", s, len(l), f)
		}
		for _, more := range []string{whole + " ", whole + "\n", whole + "$", " " + whole, "\n" + whole, "$" + whole, "01" + whole, "\"" + whole, whole + whole} {
			if l, f := lex.All(more); f != fail(api.ErrLong, 1, 1) || l != nil {
				t.Fatalf("%d bytes of %q: %d tokens, %v", len(more), s, len(l), f)
			}
		}
	}
	checkTokens(t, strings.Repeat(" ", 65534)+"a\n", token(1, "a", 1, 65535))
	checkFail(t, strings.Repeat(" ", 65535)+"$", fail(api.ErrText, 1, 65536))
	checkFail(t, strings.Repeat(" ", 65536)+"$", fail(api.ErrLong, 1, 1))
	checkFail(t, strings.Repeat("\n", 65537), fail(api.ErrLong, 1, 1))
	checkFail(t, "$"+strings.Repeat("\n", 65535), fail(api.ErrText, 1, 1))
	checkFail(t, strings.Repeat("a", 65536), fail(api.ErrLong, 1, 1))
	checkFail(t, strings.Repeat("\"a\"", 30000), fail(api.ErrLong, 1, 1))
}

// 9.2: a quoted text's token stands as its quoted form, others as their Text, whatever that is, and whatever their places are.
func TestText(t *testing.T) {
	for _, x := range []struct {
		token lex.Token
		text  string
	}{
		{lex.Token{}, ""},
		{token(1, "a", 1, 1), "a"},
		{token(1, "_", 7, 9), "_"},
		{token(2, "if", 0, 0), "if"},
		{token(3, "10", -1, -1), "10"},
		{token(4, "", 1, 1), `""`},
		{token(4, "a", 1, 1), `"a"`},
		{token(4, "a\"\\\n\r\t\x00\x7f\x80\xff ~", 1, 1), `"a\"\\\n\r\t\x00\x7f\x80\xff ~"`},
		{token(4, `"a"`, 1, 1), `"\"a\""`},
		{token(4, "é", 1, 1), `"\xc3\xa9"`},
		{token(4, "true", 1, 1), `"true"`},
		{token(4, longText, 1, 1), `"` + longText + `"`},
		{token(4, longText+longText, 1, 1), `"` + longText + longText + `"`},
		{token(5, "<=", 1, 1), "<="},
		{token(5, "-", 1, 1), "-"},
		{token(0, "a\n\"", 1, 1), "a\n\""},
		{token(6, "a b", 1, 1), "a b"},
		{token(-4, "\x00", 1, 1), "\x00"},
		{token(1, "a\"b", 1, 1), "a\"b"},
	} {
		if text := lex.Text(x.token); text != x.text {
			t.Errorf("Text(%.60v) = %.60q; want %.60q", x.token, text, x.text)
		}
	}
}

// 9.2: no token, one and several, with a blank between any two.
func TestJoin(t *testing.T) {
	a, q, n := token(1, "a", 1, 1), token(4, "\n", 5, 5), token(3, "0", 0, 0)
	for _, x := range []struct {
		l    []lex.Token
		text string
	}{
		{nil, ""},
		{[]lex.Token{}, ""},
		{[]lex.Token{a}, "a"},
		{[]lex.Token{q}, `"\n"`},
		{[]lex.Token{{}}, ""},
		{[]lex.Token{a, a}, "a a"},
		{[]lex.Token{q, q}, `"\n" "\n"`},
		{[]lex.Token{{}, {}}, " "},
		{[]lex.Token{n, a, q, token(5, "==", 1, 1), token(2, "or", 2, 2)}, `0 a "\n" == or`},
		{[]lex.Token{token(5, "<", 1, 1), token(5, "=", 1, 2), token(3, "0", 1, 3), token(3, "0", 1, 4)}, "< = 0 0"},
	} {
		if text := lex.Join(x.l...); text != x.text {
			t.Errorf("Join(%v) = %q; want %q", x.l, text, x.text)
		}
	}
	if text := lex.Join(); text != "" {
		t.Errorf("Join() = %q", text)
	}
	if text := lex.Join(q, a, a); text != `"\n" a a` {
		t.Errorf("Join = %q", text)
	}
}

// 9.3: tokens that would be others with nothing between are the same again, when they are joined and read.
func TestJoinedTokensAreReadAgain(t *testing.T) {
	var l []lex.Token
	for _, s := range tokens() {
		a, _ := lex.All(s)
		l = append(l, a...)
	}
	if len(l) != len(tokens()) {
		t.Fatalf("%d tokens of %d", len(l), len(tokens()))
	}
	checkAgain(t, lex.Join(), nil)
	checkAgain(t, lex.Join(l...), l)
	for _, a := range l {
		checkAgain(t, lex.Join(a), []lex.Token{a})
		for _, b := range l {
			checkAgain(t, lex.Join(a, b), []lex.Token{a, b})
			checkAgain(t, lex.Join(a, b, a), []lex.Token{a, b, a})
		}
	}
}

// 9.1: all texts of up to four bytes that have a part in what the chapter says.
func TestShortTexts(t *testing.T) {
	bytes := "a_09 \n#\"\\x=!-\x80"
	texts := []string{""}
	for range 4 {
		var longer []string
		for _, s := range texts {
			check(t, s)
			for i := range len(bytes) {
				longer = append(longer, s+bytes[i:i+1])
			}
		}
		texts = longer
	}
	for _, s := range texts {
		check(t, s)
	}
}

// 9.1, 9.2, 9.3: texts made by chance of tokens, of what is between, and of what is wrong.
func TestManyTexts(t *testing.T) {
	chance := rand.New(rand.NewSource(9))
	pieces := slices.Concat(tokens(), tokens(), tokens(), []string{"01", "1b", "!", "\"", "\\", "$", "\x80", longName + "x", longNumber + "0", "\"\\x4", "\x00"})
	gaps := []string{"", "", " ", " ", " ", "\n", "\t", "\r\n", "  ", "# a\n", "#\n\n"}
	for range 30000 {
		s := ""
		for range chance.Intn(9) {
			s += gaps[chance.Intn(len(gaps))] + pieces[chance.Intn(len(pieces))]
		}
		s += gaps[chance.Intn(len(gaps))]
		check(t, s)
		if s != "" {
			changed := []byte(s)
			changed[chance.Intn(len(s))] = byte(chance.Intn(256))
			check(t, string(changed))
			check(t, s[:chance.Intn(len(s))])
			check(t, s[chance.Intn(len(s)):])
		}
	}
}

// R3, R4: tokens that are handed in stay as they were; what is answered is memory of its own, and the same each time.
func TestMemory(t *testing.T) {
	const s = "a \"b\" <= 5"
	first, _ := lex.All(s)
	was := slices.Clone(first)
	second, _ := lex.All(s)
	joined := lex.Join(second[:2]...)
	if joined != `a "b"` || !slices.Equal(second, was) {
		t.Fatalf("%q, %v behind Join", joined, second)
	}
	clear(first)
	_ = append(first[:1], lex.Token{}, lex.Token{})
	if third, f := lex.All(s); !slices.Equal(second, was) || !slices.Equal(third, was) || f != (api.Fail{}) {
		t.Fatalf("%v, %v behind changes of an earlier answer", second, third)
	}
}

func FuzzText(f *testing.F) {
	for _, s := range []string{
		"", "qea p skip s accept start s", "x<=-5 # a\n", "forall x:int free n = -1", "\"a\\\"\\x00\"", "\"\\x41\"", "01", "1b", "\x80", "a!", "\"\n\"",
		longName + "x", longNumber + "1", `"` + longText + `x"`, strings.Repeat("(", 65537),
	} {
		f.Add(s)
	}
	f.Fuzz(check)
}
