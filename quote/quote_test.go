package quote

import (
	"fmt"
	"strings"
	"testing"
)

// formOf says anew, straight from the chapter's words, how one byte stands in a quoted form.
func formOf(c byte) string {
	switch {
	case c == '"':
		return `\"`
	case c == '\\':
		return `\\`
	case c == 10:
		return `\n`
	case c == 13:
		return `\r`
	case c == 9:
		return `\t`
	case c >= 32 && c <= 126:
		return string(rune(c))
	}
	return fmt.Sprintf(`\x%02x`, c)
}

func formOfText(s string) string {
	form := `"`
	for i := range len(s) {
		form += formOf(s[i])
	}
	return form + `"`
}

// cutBySearch cuts by trying all bytes at each place: it knows the forms alone, not how they are read.
func cutBySearch(s string) (string, int, bool) {
	if s == "" || s[0] != '"' {
		return "", 0, false
	}
	text, rest := "", s[1:]
next:
	for {
		if strings.HasPrefix(rest, `"`) {
			return text, len(s) - len(rest) + 1, true
		}
		for c := range 256 {
			if after, ok := strings.CutPrefix(rest, formOf(byte(c))); ok {
				text, rest = text+string([]byte{byte(c)}), after
				continue next
			}
		}
		return "", 0, false
	}
}

// 2.1: the forms that the chapter names, and the document's examples.
func TestQuoteForms(t *testing.T) {
	for _, c := range []struct{ text, form string }{
		{"", `""`},
		{"abc", `"abc"`},
		{"a\x22\x00", `"a\"\x00"`},
		{"a\nb", `"a\nb"`},
		{"\"", `"\""`},
		{"\\", `"\\"`},
		{"\n\r\t", `"\n\r\t"`},
		{"\a\b\v\f\x1b", `"\x07\x08\x0b\x0c\x1b"`},
		{"\x1f ", `"\x1f "`},
		{"~\x7f", `"~\x7f"`},
		{"\x80\xff", `"\x80\xff"`},
		{"é", `"\xc3\xa9"`},
		{"!#[]'`", "\"!#[]'`\""},
		{`\n`, `"\\n"`},
		{`\x41`, `"\\x41"`},
		{`""`, `"\"\""`},
	} {
		if form := Quote(c.text); form != c.form {
			t.Errorf("Quote(%q) = %s, want %s", c.text, form, c.form)
		}
		if text, ok := Unquote(c.form); text != c.text || !ok {
			t.Errorf("Unquote(%s) = %q, %v, want %q", c.form, text, ok, c.text)
		}
		if text, n, ok := Cut(c.form); text != c.text || n != len(c.form) || !ok {
			t.Errorf("Cut(%s) = %q, %d, %v, want %q", c.form, text, n, ok, c.text)
		}
	}
}

// 2.1, 2.2: each byte alone, and each pair of bytes.
func TestQuoteEachPair(t *testing.T) {
	for a := range 256 {
		one := string([]byte{byte(a)})
		checkText(t, one)
		if want := len(formOf(byte(a))) == 1; Plain(one) != want {
			t.Errorf("Plain(%q) = %v, want %v", one, !want, want)
		}
		for b := range 256 {
			checkText(t, one+string([]byte{byte(b)}))
		}
	}
}

// 2.3: a text is cut from its quoted form whatever stands behind; with something behind, Unquote refuses.
func checkText(t *testing.T, text string) {
	t.Helper()
	form := Quote(text)
	if form != formOfText(text) {
		t.Fatalf("Quote(%q) = %s, want %s", text, form, formOfText(text))
	}
	for _, behind := range []string{"", "a", `"`, `\`, `\"`, `""`, "\x00", "\n", "\xff", form} {
		got, n, ok := Cut(form + behind)
		if got != text || n != len(form) || !ok {
			t.Fatalf("Cut(%q) = %q, %d, %v, want %q, %d", form+behind, got, n, ok, text, len(form))
		}
		got, ok = Unquote(form + behind)
		if want := behind == ""; ok != want || want && got != text || !want && got != "" {
			t.Fatalf("Unquote(%q) = %q, %v", form+behind, got, ok)
		}
	}
}

// 2.1: texts that begin with no quoted form.
func TestCutRefuses(t *testing.T) {
	for _, s := range []string{
		"", "a", `a"b"`, ` "a"`, "'a'", "`a`",
		`"`, `"a`, `"\`, `"\"`, `"\\`, `"\x`, `"\x0`, `"\x00`, `"\x"`, `"\x0"`,
		`"\a"`, `"\b"`, `"\f"`, `"\v"`, `"\0"`, `"\000"`, `"\'"`, `"\u0041"`, `"\N"`, `"\q"`, "\"\\\n\"",
		"\"\n\"", "\"\r\"", "\"\t\"", "\"\x00\"", "\"\x1f\"", "\"\x7f\"", "\"\x80\"", "\"\xff\"", `"é"`,
		`"\x20"`, `"\x41"`, `"\x7e"`, `"\x22"`, `"\x5c"`, `"\x09"`, `"\x0a"`, `"\x0d"`,
		`"\x0B"`, `"\xFF"`, `"\xfF"`, `"\xFf"`, `"\X00"`, `"\x0g"`, `"\xg0"`, `"\x0/"`, `"\x0:"`, "\"\\x0`\"",
		"\"\\x\xc30\"", "\"\\x0\xb1\"",
		`"a\x00b\q"`,
	} {
		if text, n, ok := Cut(s); text != "" || n != 0 || ok {
			t.Errorf("Cut(%q) = %q, %d, %v, want none", s, text, n, ok)
		}
		if text, ok := Unquote(s); text != "" || ok {
			t.Errorf("Unquote(%q) = %q, %v, want none", s, text, ok)
		}
	}
}

// 2.1: Cut does not look behind the form's end, and Unquote takes nothing behind it.
func TestCutStopsAtTheEnd(t *testing.T) {
	for _, c := range []struct {
		s, text string
		n       int
	}{
		{`"ab""c"`, "ab", 4},
		{`""`, "", 2},
		{`"""`, "", 2},
		{`"a"\q`, "a", 3},
		{`"\"" "`, `"`, 4},
		{"\"\\x00\"\x00", "\x00", 6},
	} {
		if text, n, ok := Cut(c.s); text != c.text || n != c.n || !ok {
			t.Errorf("Cut(%q) = %q, %d, %v, want %q, %d", c.s, text, n, ok, c.text, c.n)
		}
	}
}

// 2.1: every \x with every two bytes behind it.
func TestCutEachTwoDigits(t *testing.T) {
	for a := range 256 {
		for b := range 256 {
			checkCut(t, `"\x`+string([]byte{byte(a), byte(b)})+`"`)
		}
	}
}

// 2.1: all short texts of the bytes that mean something.
func TestCutEachShortText(t *testing.T) {
	const bytes = "\"\\xn01f\n\x80"
	texts := []string{""}
	for range 5 {
		var longer []string
		for _, s := range texts {
			for i := range len(bytes) {
				longer = append(longer, s+bytes[i:i+1])
			}
		}
		for _, s := range longer {
			checkCut(t, `"`+s)
		}
		texts = longer
	}
}

func checkCut(t *testing.T, s string) {
	t.Helper()
	text, n, ok := Cut(s)
	wantText, wantN, wantOk := cutBySearch(s)
	if text != wantText || n != wantN || ok != wantOk {
		t.Fatalf("Cut(%q) = %q, %d, %v, want %q, %d, %v", s, text, n, ok, wantText, wantN, wantOk)
	}
	// What is cut is what is quoted: no two texts have one form, and no text two.
	if ok && Quote(text) != s[:n] {
		t.Fatalf("Quote(%q) = %s, want %s", text, Quote(text), s[:n])
	}
	whole, wholeOk := Unquote(s)
	if want := wantOk && wantN == len(s); wholeOk != want || want && whole != wantText || !want && whole != "" {
		t.Fatalf("Unquote(%q) = %q, %v", s, whole, wholeOk)
	}
}

// 2.2: one byte that does not stand as it is is enough, wherever it is.
func TestPlain(t *testing.T) {
	for s, want := range map[string]bool{
		"": true, " ": true, "~": true, "abc XYZ 019 !#[]^_`{|}": true,
		"\"": false, `\`: false, "\n": false, "\r": false, "\t": false,
		"\x00": false, "\x1f": false, "\x7f": false, "\x80": false, "\xff": false, "é": false,
		"\"bc": false, "a\"c": false, "ab\"": false, "ab\n": false,
	} {
		if Plain(s) != want {
			t.Errorf("Plain(%q) = %v, want %v", s, !want, want)
		}
	}
}

func TestPlainMeansAsItIs(t *testing.T) {
	for a := range 256 {
		for b := range 256 {
			s := string([]byte{byte(a), byte(b)})
			if want := formOfText(s) == `"`+s+`"`; Plain(s) != want {
				t.Fatalf("Plain(%q) = %v, want %v", s, !want, want)
			}
		}
	}
}

func TestLongTexts(t *testing.T) {
	for _, part := range []string{"a", "\"", "\x00", "\n\xff~"} {
		text := strings.Repeat(part, 1<<18)
		form := Quote(text)
		if got, ok := Unquote(form); got != text || !ok {
			t.Errorf("a long text of %q is not cut from its form", part)
		}
		if _, _, ok := Cut(form[:len(form)-1]); ok {
			t.Errorf("a long text of %q is cut without its end", part)
		}
	}
}

func FuzzCut(f *testing.F) {
	for _, s := range []string{"", `"`, `""`, `"a\n"b`, `"\x00"`, `"\x0a"`, `"\q"`, "\"\xff\""} {
		f.Add(s)
	}
	f.Fuzz(func(t *testing.T, s string) {
		checkCut(t, s)
		checkText(t, s)
		if want := formOfText(s) == `"`+s+`"`; Plain(s) != want {
			t.Fatalf("Plain(%q) = %v, want %v", s, !want, want)
		}
	})
}
