package key_test

import (
	"bytes"
	"math"
	"math/big"
	"regexp"
	"slices"
	"strings"
	"testing"
	"unicode/utf8"

	"proctor/api"
	"proctor/key"
	"proctor/value"
)

// rising are values that may be, each ahead of all that stand behind it.
func rising() []api.Value {
	return []api.Value{
		value.Int(math.MinInt64), value.Int(math.MinInt64 + 1), value.Int(-1 << 32), value.Int(-257), value.Int(-256), value.Int(-1),
		value.Int(0), value.Int(1), value.Int(255), value.Int(256), value.Int(1 << 32), value.Int(math.MaxInt64 - 1), value.Int(math.MaxInt64),
		value.Str(""), value.Str("\x00"), value.Str("\x00\x00"), value.Str("\x00\x01"), value.Str("\x00\xff"), value.Str("\x01"), value.Str("\x01\x00"), value.Str("\x01\x01"),
		value.Str("a"), value.Str("a\x00"), value.Str("a\x00b"), value.Str("a\x01"), value.Str("ab"), value.Str("b"), value.Str("\x80"), value.Str("\xfe"), value.Str("\xff"), value.Str("\xff\x00"), value.Str("\xff\xff"),
		value.Bool(false), value.Bool(true),
	}
}

// longest are texts of the greatest length that may be.
func longest() []api.Value {
	var l []api.Value
	for _, part := range []string{"\x00", "\x01", "a", "\xff", "\x00\xff", "\x00\x01", "a\x00", "\x00a"} {
		l = append(l, value.Str(strings.Repeat(part, api.MaxStr/len(part))))
	}
	return l
}

// wrong are values that may not be.
func wrong() []api.Value {
	return []api.Value{
		{}, {Int: 1}, {Str: "a"}, {Bool: true},
		{Kind: -1}, {Kind: 4}, {Kind: 255, Int: 1}, {Kind: 256 + api.Int}, {Kind: 256 + api.Str, Str: "a"}, {Kind: -256 + api.Bool, Bool: true},
		{Kind: math.MinInt}, {Kind: math.MaxInt}, {Kind: 1<<32 + api.Int},
		{Kind: api.Int, Str: "a"}, {Kind: api.Int, Bool: true}, {Kind: api.Str, Int: 1}, {Kind: api.Str, Str: "a", Bool: true},
		{Kind: api.Bool, Int: 1}, {Kind: api.Bool, Bool: true, Str: "\x00"},
		value.Str(strings.Repeat("a", api.MaxStr+1)), value.Str(strings.Repeat("\x00", api.MaxStr+1)), value.Str(strings.Repeat("\xff", 1<<20)),
	}
}

// keyOf says anew, straight from the chapter's words, what the key of a value that may be is.
func keyOf(v api.Value) string {
	switch v.Kind {
	case api.Int:
		n := new(big.Int).Add(big.NewInt(v.Int), new(big.Int).Lsh(big.NewInt(1), 63))
		return "\x01" + string(n.FillBytes(make([]byte, 8)))
	case api.Str:
		k := []byte{2}
		for i := range len(v.Str) {
			k = append(k, v.Str[i])
			if v.Str[i] == 0 {
				k = append(k, 255)
			}
		}
		return string(append(k, 0, 1))
	}
	if v.Bool {
		return "\x03\x01"
	}
	return "\x03\x00"
}

// keysOf are the keys of values that may be, one behind the other.
func keysOf(l []api.Value) string {
	keys := ""
	for _, v := range l {
		keys += keyOf(v)
	}
	return keys
}

// 4.1: keys written out, the chapter's examples among them.
func TestKeysWrittenOut(t *testing.T) {
	for _, x := range []struct {
		v   api.Value
		key string
	}{
		{value.Int(1), "\x01\x80\x00\x00\x00\x00\x00\x00\x01"},
		{value.Int(0), "\x01\x80\x00\x00\x00\x00\x00\x00\x00"},
		{value.Int(-1), "\x01\x7f\xff\xff\xff\xff\xff\xff\xff"},
		{value.Int(0x0102030405060708), "\x01\x81\x02\x03\x04\x05\x06\x07\x08"},
		{value.Int(math.MinInt64), "\x01\x00\x00\x00\x00\x00\x00\x00\x00"},
		{value.Int(math.MaxInt64), "\x01\xff\xff\xff\xff\xff\xff\xff\xff"},
		{value.Str(""), "\x02\x00\x01"},
		{value.Str("ab"), "\x02ab\x00\x01"},
		{value.Str("\x00"), "\x02\x00\xff\x00\x01"},
		{value.Str("\x00\x00"), "\x02\x00\xff\x00\xff\x00\x01"},
		{value.Str("\x00\x01"), "\x02\x00\xff\x01\x00\x01"},
		{value.Str("\x00\xff"), "\x02\x00\xff\xff\x00\x01"},
		{value.Str("a\x00b"), "\x02a\x00\xffb\x00\x01"},
		{value.Str("\x01"), "\x02\x01\x00\x01"},
		{value.Str("\xff"), "\x02\xff\x00\x01"},
		{value.Str("\u00e9"), "\x02\xc3\xa9\x00\x01"},
		{value.Bool(false), "\x03\x00"},
		{value.Bool(true), "\x03\x01"},
	} {
		if got := key.Of(x.v); string(got) != x.key {
			t.Errorf("Of(%v) = %v; want %v", x.v, got, []byte(x.key))
		}
		checkBytes(t, x.key)
	}
}

// 4.1: values of each kind, by the chapter's words; also texts of the greatest length.
func TestOfEachValue(t *testing.T) {
	for _, v := range append(rising(), longest()...) {
		if got := key.Of(v); string(got) != keyOf(v) {
			t.Errorf("Of(%.40v) = %.40v; want %.40v", v, got, []byte(keyOf(v)))
		}
	}
	for shift := range 64 {
		for _, n := range []int64{1 << shift, 1<<shift - 1, -1 << shift, -(1 << shift) - 1, 0x55 << shift} {
			if got := key.Of(value.Int(n)); string(got) != keyOf(value.Int(n)) {
				t.Errorf("Of(%d) = %v", n, got)
			}
		}
	}
}

// 4.1: keys stand one behind the other, and no values have no bytes.
func TestOfLists(t *testing.T) {
	if got := key.Of(); len(got) != 0 {
		t.Errorf("Of() = %v", got)
	}
	for _, l := range [][]api.Value{
		{value.Int(1), value.Bool(true)},
		{value.Str(""), value.Str("")},
		{value.Str("\x00"), value.Str("\xff"), value.Int(-5), value.Bool(false), value.Str("a")},
		rising(), longest(), slices.Repeat(rising(), 20),
	} {
		given := slices.Clone(l)
		if got := key.Of(l...); string(got) != keysOf(l) {
			t.Errorf("Of(%.60v) = %.60v", l, got)
		}
		if !slices.Equal(given, l) {
			t.Errorf("Of changed %.60v to %.60v", given, l)
		}
	}
}

// 4.1: nothing, wherever a value stands that may not be.
func TestOfNothing(t *testing.T) {
	for _, v := range wrong() {
		for _, l := range [][]api.Value{
			{v}, {v, v}, {v, value.Int(1)}, {value.Int(1), v}, {value.Str("a"), v, value.Bool(true)}, append(rising(), v),
		} {
			if got := key.Of(l...); len(got) != 0 {
				t.Errorf("Of(%.60v) = %.60v; want nothing", l, got)
			}
		}
	}
}

// 4.1: the value that bytes begin with, and the size of its key, whatever stands behind it.
func TestCutWhateverIsBehind(t *testing.T) {
	for _, v := range append(rising(), longest()...) {
		k := keyOf(v)
		for _, behind := range []string{"", "\x00", "\x01", "\x02", "\x03", "\x04", "\xff", "a", "\x00\x01", "\x00\xff", "\x00\x01\x00\x01", "\xff\xff", strings.Repeat("\x00", 20), k} {
			if got, size, ok := key.Cut([]byte(k + behind)); got != v || size != len(k) || !ok {
				t.Errorf("Cut(%.40q, and %q behind) = %.40v, %d, %v; want %.40v, %d", k, behind, got, size, ok, v, len(k))
			}
		}
	}
}

// refused are bytes that begin with no key.
func refused() []string {
	l := []string{
		"", "\x00", "\x00\x01", "\x04", "\x04\x00", "\x04a\x00\x01", "\x05", "\x7f\x00", "\x80", "\xff", "\xff\x01", "a", "1", "\x11\x00", "\x83\x01",
		"\x03", "\x03\x02", "\x03\x03", "\x03\x7f", "\x03\x80", "\x03\xff", "\x03\x02\x01",
		"\x02", "\x02a", "\x02\x00", "\x02a\x00", "\x02\x01", "\x02\xff", "\x02\x00\xff", "\x02\x00\xff\x00", "\x02\x00\xff\x01", "\x02\x01\x00\xff", "\x02\x00\xffa",
		"\x02\x00\x00", "\x02\x00\x00\x01", "\x02\x00\x02", "\x02\x00\x02\x00\x01", "\x02\x00\xfe\x00\x01", "\x02\x00a\x00\x01", "\x02\x00\x80\x00\x01", "\x02a\x00\x00\xff\x00\x01",
	}
	for size := range 8 {
		l = append(l, "\x01"+strings.Repeat("\x80", size), "\x01"+strings.Repeat("\x00", size))
	}
	for _, part := range []string{"a", "\x01", "\xff", "\x00\xff"} {
		long := "\x02" + strings.Repeat(part, api.MaxStr+1)
		l = append(l, long, long+"\x00\x01", long+part+"\x00\x01", "\x02"+strings.Repeat(part, api.MaxStr), "\x02"+strings.Repeat(part, 1<<18)+"\x00\x01")
	}
	return l
}

// 4.1: bytes that begin with no key, and what is told of them.
func TestCutRefuses(t *testing.T) {
	for _, b := range refused() {
		if v, size, ok := key.Cut([]byte(b)); v != (api.Value{}) || size != 0 || ok {
			t.Errorf("Cut(%.40q) = %.40v, %d, %v; want none", b, v, size, ok)
		}
	}
	if v, size, ok := key.Cut(nil); v != (api.Value{}) || size != 0 || ok {
		t.Errorf("Cut(nil) = %v, %d, %v; want none", v, size, ok)
	}
}

// 4.1: how long a text may be hangs on its own bytes, not on those of its key.
func TestCutLong(t *testing.T) {
	for _, x := range []struct{ part, text string }{{"a", "a"}, {"\xff", "\xff"}, {"\x01", "\x01"}, {"\x00\xff", "\x00"}} {
		for _, n := range []int{api.MaxStr - 1, api.MaxStr, api.MaxStr + 1, api.MaxStr + 2, 2 * api.MaxStr} {
			b := "\x02" + strings.Repeat(x.part, n) + "\x00\x01"
			v, size, ok := key.Cut([]byte(b))
			if n > api.MaxStr {
				if v != (api.Value{}) || size != 0 || ok {
					t.Errorf("%d times %q: %.40v, %d, %v; want none", n, x.text, v, size, ok)
				}
			} else if v != value.Str(strings.Repeat(x.text, n)) || size != len(b) || !ok {
				t.Errorf("%d times %q: %.40v, %d, %v", n, x.text, v, size, ok)
			}
		}
	}
}

// 4.1: the values are read of their keys.
func TestReadLists(t *testing.T) {
	for _, l := range [][]api.Value{nil, {value.Bool(false)}, {value.Str("")}, {value.Int(0), value.Int(0)}, rising(), longest(), slices.Repeat(rising(), 20)} {
		if got, ok := key.Read([]byte(keysOf(l))); !slices.Equal(got, l) || !ok {
			t.Errorf("Read of the keys of %.60v = %.60v, %v", l, got, ok)
		}
	}
	for _, v := range append(rising(), longest()...) {
		if got, ok := key.Read(key.Of(v)); len(got) != 1 || got[0] != v || !ok {
			t.Errorf("Read(Of(%.60v)) = %.60v, %v", v, got, ok)
		}
	}
}

// 4.1: no bytes are the keys of no values.
func TestReadNothing(t *testing.T) {
	for _, b := range [][]byte{nil, {}} {
		if l, ok := key.Read(b); len(l) != 0 || !ok {
			t.Errorf("Read(%v) = %v, %v; want no values, and true", b, l, ok)
		}
	}
}

// 4.1: bytes that consist of no keys, also where keys stand ahead of what is wrong.
func TestReadRefuses(t *testing.T) {
	for _, b := range refused() {
		for _, ahead := range []string{"", keyOf(value.Int(7)), keyOf(value.Bool(true)), keyOf(value.Str("\x00")) + keyOf(value.Str(""))} {
			if b == "" {
				continue
			}
			if l, ok := key.Read([]byte(ahead + b)); len(l) != 0 || ok {
				t.Errorf("Read(%q and %.40q) = %.40v, %v; want none", ahead, b, l, ok)
			}
		}
	}
}

// 4.1: a beginning of keys is read just where a key ends.
func TestReadBeginnings(t *testing.T) {
	for _, l := range [][]api.Value{rising(), {value.Str("a\x00b\xff"), value.Int(1), value.Str("")}} {
		keys := keysOf(l)
		ends := map[int]int{0: 0}
		for i := range l {
			ends[len(keysOf(l[:i+1]))] = i + 1
		}
		for size := range len(keys) + 1 {
			got, ok := key.Read([]byte(keys[:size]))
			n, whole := ends[size]
			if ok != whole || !slices.Equal(got, l[:n]) {
				t.Errorf("Read of the first %d bytes = %v, %v; want %v", size, got, ok, whole)
			}
		}
	}
}

// forms are keys by their forms, in texts that have a rune for each byte.
var forms = regexp.MustCompile(`(?s)^(\x{01}.{8}|\x{02}(([^\x00]|\x00\x{ff})*)\x00\x{01}|\x{03}[\x00\x{01}])`)

// cutByForms is what Cut must answer, told by forms: which bytes are a key, and whose.
func cutByForms(b string) (api.Value, int, bool) {
	runes := make([]rune, len(b))
	for i := range len(b) {
		runes[i] = rune(b[i])
	}
	found := forms.FindString(string(runes))
	size := utf8.RuneCountInString(found)
	if size == 0 {
		return api.Value{}, 0, false
	}
	k := b[:size]
	switch k[0] {
	case 1:
		n := new(big.Int).SetBytes([]byte(k[1:]))
		return api.Value{Kind: 1, Int: n.Sub(n, new(big.Int).Lsh(big.NewInt(1), 63)).Int64()}, size, true
	case 2:
		text := strings.ReplaceAll(k[1:size-2], "\x00\xff", "\x00")
		if len(text) > 4096 {
			return api.Value{}, 0, false
		}
		return api.Value{Kind: 2, Str: text}, size, true
	}
	return api.Value{Kind: 3, Bool: k[1] == 1}, size, true
}

// checkBytes holds Cut and Read against the forms; the keys of what is read are the bytes it was read of.
func checkBytes(t *testing.T, s string) {
	t.Helper()
	b := []byte(s)
	v, size, ok := key.Cut(b)
	if want, wantSize, wantOk := cutByForms(s); v != want || size != wantSize || ok != wantOk {
		t.Fatalf("Cut(%.60q) = %.60v, %d, %v; want %.60v, %d, %v", s, v, size, ok, want, wantSize, wantOk)
	}
	var want []api.Value
	for rest := s; rest != ""; {
		v, size, ok := cutByForms(rest)
		if !ok {
			if l, ok := key.Read(b); len(l) != 0 || ok {
				t.Fatalf("Read(%.60q) = %.60v, %v; want none", s, l, ok)
			}
			return
		}
		want, rest = append(want, v), rest[size:]
	}
	l, ok := key.Read(b)
	if !slices.Equal(l, want) || !ok {
		t.Fatalf("Read(%.60q) = %.60v, %v; want %.60v", s, l, ok, want)
	}
	if string(b) != s {
		t.Fatalf("Cut or Read changed %.60q to %.60q", s, b)
	}
	if got := key.Of(l...); string(got) != s {
		t.Fatalf("Of(%.60v) = %.60q; want %.60q", l, got, s)
	}
}

// 4.1: all bytes of up to six of those that mean something; each byte at each place of some keys, or one less.
func TestEachShortBytes(t *testing.T) {
	const some = "\x00\x01\x02\x03\x04\xff"
	all := []string{""}
	checkBytes(t, "")
	for range 6 {
		var longer []string
		for _, s := range all {
			for i := range len(some) {
				longer = append(longer, s+some[i:i+1])
			}
		}
		for _, s := range longer {
			checkBytes(t, s)
		}
		all = longer
	}
	for _, s := range []string{keyOf(value.Int(-2)), keyOf(value.Str("a\x00\xff")), keyOf(value.Bool(true)), keysOf([]api.Value{value.Bool(false), value.Str(""), value.Int(3), value.Str("b")})} {
		for i := range len(s) {
			checkBytes(t, s[:i]+s[i+1:])
			for c := range 256 {
				checkBytes(t, s[:i]+string([]byte{byte(c)})+s[i+1:])
				checkBytes(t, s[:i]+string([]byte{byte(c)})+s[i:])
			}
		}
	}
}

// compareLists says which of two lists of values is ahead, by the words of 4.2.
func compareLists(a, b []api.Value) int {
	return slices.CompareFunc(a, b, func(v, w api.Value) int {
		switch {
		case value.Less(v, w):
			return -1
		case value.Less(w, v):
			return 1
		}
		return 0
	})
}

// checkOrder holds the order of all lists' keys against that of the lists: no two that are unlike have the same keys.
func checkOrder(t *testing.T, lists [][]api.Value) {
	t.Helper()
	keys := make([][]byte, len(lists))
	for i, l := range lists {
		keys[i] = key.Of(l...)
	}
	for i, a := range lists {
		for j, b := range lists {
			if got, want := bytes.Compare(keys[i], keys[j]), compareLists(a, b); got != want {
				t.Fatalf("the keys of %.60v and %.60v compare as %d; want %d", a, b, got, want)
			}
		}
	}
}

// 4.2: single values, and all lists of up to two of them.
func TestOrderOfLists(t *testing.T) {
	lists := [][]api.Value{nil}
	for _, v := range rising() {
		lists = append(lists, []api.Value{v})
		for _, w := range rising() {
			lists = append(lists, []api.Value{v, w})
		}
	}
	checkOrder(t, lists)
}

// 4.2: lists of three, and beginnings of lists, where a short text has bytes behind it that a longer one could go on with.
func TestOrderOfLongerLists(t *testing.T) {
	some := []api.Value{value.Int(0), value.Str(""), value.Str("\x00"), value.Str("\x01"), value.Str("\xff"), value.Bool(true)}
	lists := [][]api.Value{nil}
	for at := 0; at < len(lists) && len(lists[at]) < 4; at++ {
		for _, v := range some {
			lists = append(lists, append(slices.Clone(lists[at]), v))
		}
	}
	checkOrder(t, lists)
}

// 4.2: all texts of up to four of the bytes that mean something, and the longest ones.
func TestOrderOfTexts(t *testing.T) {
	texts := []string{""}
	for at := 0; at < len(texts) && len(texts[at]) < 4; at++ {
		for _, c := range []string{"\x00", "\x01", "\x02", "\xfe", "\xff"} {
			texts = append(texts, texts[at]+c)
		}
	}
	var lists [][]api.Value
	for _, s := range texts {
		lists = append(lists, []api.Value{value.Str(s)})
	}
	for _, v := range longest() {
		lists = append(lists, []api.Value{v}, []api.Value{v, value.Int(1)}, []api.Value{value.Str(v.Str[1:])}, []api.Value{value.Str(v.Str[:api.MaxStr-1])})
	}
	checkOrder(t, lists)
}

// What is answered is memory of its own: writing to it, or to what was handed in, is not seen in it.
func TestAnswersAreNewMemory(t *testing.T) {
	l := []api.Value{value.Str("ab\x00"), value.Int(5), value.Bool(true)}
	want := keysOf(l)
	clear(key.Of(l...))
	keys := key.Of(l...)
	if string(keys) != want {
		t.Errorf("Of answers %v behind a change of an earlier answer", keys)
	}
	v, _, _ := key.Cut(keys)
	read, _ := key.Read(keys)
	again, _ := key.Read(keys)
	clear(again)
	clear(keys)
	if v != l[0] || !slices.Equal(read, l) {
		t.Errorf("what was read is %v, %v behind a change of the bytes", v, read)
	}
	own := slices.Clone(l)
	keys = key.Of(own...)
	clear(own)
	if string(keys) != want {
		t.Errorf("Of's answer is %v behind a change of the values", keys)
	}
}

func FuzzBytes(f *testing.F) {
	for _, s := range append(refused(), keysOf(rising())) {
		f.Add([]byte(s), []byte{})
	}
	f.Fuzz(func(t *testing.T, b, behind []byte) {
		checkBytes(t, string(b))
		checkBytes(t, string(b)+string(behind))
		v, size, ok := key.Cut(b)
		if !ok {
			return
		}
		if again, n, ok := key.Cut(append(slices.Clone(b[:size]), behind...)); again != v || n != size || !ok {
			t.Fatalf("%.60v, of %d bytes, is cut as %.60v, of %d, where others stand behind it", v, size, again, n)
		}
	})
}

func FuzzOf(f *testing.F) {
	f.Add(int64(math.MinInt64), int64(-1), "a", "a\x00", true, false)
	f.Add(int64(0), int64(256), "", "\x00\x01", false, false)
	f.Fuzz(func(t *testing.T, m, n int64, r, s string, p, q bool) {
		l := []api.Value{value.Int(m), value.Int(n), value.Str(r), value.Str(s), value.Bool(p), value.Bool(q)}
		if len(r) > api.MaxStr || len(s) > api.MaxStr {
			if got := key.Of(l...); len(got) != 0 {
				t.Fatalf("keys of texts of %d and %d bytes", len(r), len(s))
			}
			return
		}
		if got, ok := key.Read(key.Of(l...)); !slices.Equal(got, l) || !ok {
			t.Fatalf("Read(Of(%.60v)) = %.60v, %v", l, got, ok)
		}
		lists := [][]api.Value{nil}
		for _, v := range l {
			lists = append(lists, []api.Value{v}, append([]api.Value{v}, l...))
			if string(key.Of(v)) != keyOf(v) {
				t.Fatalf("Of(%.60v) = %.60v", v, key.Of(v))
			}
		}
		checkOrder(t, lists)
	})
}
