package lex

import (
	"fmt"
	"reflect"
	"regexp"
	"slices"
	"strings"
	"testing"

	"trivium/api"
	"trivium/name"
)

// The kinds, by the numbers that the chapter gives them.
const (
	aWord   = 1
	aFigure = 2
	aMark   = 3
)

// What may stand at a place, told once more: that which is passed over, and each kind of token.
var (
	gapForm   = regexp.MustCompile(`\A([ \t\n]|#[^\n]*)+`)
	tokenForm = regexp.MustCompile(`\A(?:([a-z][a-z0-9_-]*)|([0-9][0-9./%]*)|([{};,*]))`)
)

// apart takes a text apart by these patterns. (A pattern takes a byte that fits nowhere for a sign of its own, which [^\n] has, too.)
func apart(s string) ([]Token, int, api.Errno) {
	var all []Token
	rest := s
	for {
		rest = rest[len(gapForm.FindString(rest)):]
		line := 1 + strings.Count(s[:len(s)-len(rest)], "\n")
		if rest == "" {
			return all, line, api.OK
		}
		parts := tokenForm.FindStringSubmatch(rest)
		if parts == nil {
			return nil, line, api.ErrGrammar
		}
		for kind := aWord; kind <= aMark; kind++ {
			if parts[kind] != "" {
				all = append(all, Token{Kind: kind, Text: parts[kind], Line: line})
			}
		}
		rest = rest[len(parts[0]):]
	}
}

// sameTokens tells whether two lists are the same; one that is nil is as an empty one.
func sameTokens(a, b []Token) bool { return slices.Equal(a, b) }

// checkApart holds All and New of s against what is wanted.
func checkApart(t *testing.T, s string, want []Token, line int, e api.Errno) {
	t.Helper()
	short := s
	if len(short) > 80 {
		short = short[:80]
	}
	all, at, told := All(s)
	if !sameTokens(all, want) || at != line || told != e {
		t.Fatalf("All(%q): %v, %d, %v, want %v, %d, %v", short, all, at, told, want, line, e)
	}
	r, at, told := New(s)
	if (r == nil) != (e != api.OK) || at != line || told != e {
		t.Fatalf("New(%q): %v, %d, %v, want %d, %v", short, r, at, told, line, e)
	}
	if r != nil && !sameTokens(rest(r), want) {
		t.Fatalf("New(%q): not the same tokens as All's", short)
	}
}

// rest goes by all that a reader has left, and tells it by its calls alone.
func rest(r *Reader) []Token {
	var all []Token
	for !r.Done() {
		line := r.Line()
		if text, ok := r.Name(); ok {
			all = append(all, Token{Kind: aWord, Text: text, Line: line})
		} else if text, ok := r.Figure(); ok {
			all = append(all, Token{Kind: aFigure, Text: text, Line: line})
		} else if text, ok := takeAny(r, name.Keywords()); ok {
			all = append(all, Token{Kind: aWord, Text: text, Line: line})
		} else if text, ok := takeAny(r, []string{"{", "}", ";", ",", "*"}); ok {
			all = append(all, Token{Kind: aMark, Text: text, Line: line})
		} else {
			return append(all, Token{Text: "a token that no call takes", Line: line})
		}
	}
	return all
}

func takeAny(r *Reader, texts []string) (string, bool) {
	for _, text := range texts {
		if r.Take(text) {
			return text, true
		}
	}
	return "", false
}

// tok is a token of the first line.
func tok(kind int, text string) Token { return Token{Kind: kind, Text: text, Line: 1} }

// kinds are the tokens' kinds, a digit each; texts are their texts, a blank between each two.
func kinds(all []Token) string {
	var b strings.Builder
	for _, token := range all {
		fmt.Fprint(&b, token.Kind)
	}
	return b.String()
}

func texts(all []Token) string {
	var l []string
	for _, token := range all {
		l = append(l, token.Text)
	}
	return strings.Join(l, " ")
}

// The example of the chapter.
func TestExample(t *testing.T) {
	all, line, e := All("link l1 a b fail 1/2;")
	if len(all) != 7 || line != 1 || e != api.OK {
		t.Errorf("%v, %d, %v", all, line, e)
	}
	if kinds(all) != "1111123" || texts(all) != "link l1 a b fail 1/2 ;" {
		t.Errorf("%v", all)
	}
}

// 19.1: each kind has its number, and each token is the longest at its place.
func TestTokens(t *testing.T) {
	for _, c := range []struct{ text, kinds, texts string }{
		{"", "", ""},
		{" ", "", ""},
		{"\t\n \n", "", ""},
		{"a", "1", "a"},
		{"z", "1", "z"},
		{"network", "1", "network"},
		{"networks", "1", "networks"},
		{"a b", "11", "a b"},
		{"a\tb", "11", "a b"},
		{"a\nb", "11", "a b"},
		{"abc-d_e9", "1", "abc-d_e9"},
		{"a-", "1", "a-"},
		{"a_", "1", "a_"},
		{"a--__--", "1", "a--__--"},
		{"a0123456789", "1", "a0123456789"},
		{"abcdefghijklmnopqrstuvwxyz", "1", "abcdefghijklmnopqrstuvwxyz"},
		{"0", "2", "0"},
		{"9", "2", "9"},
		{"0123456789", "2", "0123456789"},
		{"1.", "2", "1."},
		{"1/", "2", "1/"},
		{"1%", "2", "1%"},
		{"1./%", "2", "1./%"},
		{"1%%..//2", "2", "1%%..//2"},
		{"10.0.0.0/8", "2", "10.0.0.0/8"},
		{"12.5%", "2", "12.5%"},
		{"1a", "21", "1 a"},
		{"1a1", "21", "1 a1"},
		{"1%a", "21", "1% a"},
		{"12ab34cd", "21", "12 ab34cd"},
		{"1 1", "22", "1 1"},
		{"{", "3", "{"},
		{"}", "3", "}"},
		{";", "3", ";"},
		{",", "3", ","},
		{"*", "3", "*"},
		{"{};,*", "33333", "{ } ; , *"},
		{"{{", "33", "{ {"},
		{";;", "33", "; ;"},
		{"a*3", "132", "a * 3"},
		{"3*a", "231", "3 * a"},
		{"a,b", "131", "a , b"},
		{"a{b}c;1", "1313132", "a { b } c ; 1"},
		{"#", "", ""},
		{"# a b", "", ""},
		{"a#b", "1", "a"},
		{"a#b\nc", "11", "a c"},
		{"1#2\n3", "22", "1 3"},
		{";#;\n;", "33", "; ;"},
		{"##\n#\n\n#a\na", "1", "a"},
		{"# a # b\nc", "1", "c"},
		{"a # C .-_/%?! \x00\x7f\x80\xff é \r\v\f\n;", "13", "a ;"},
	} {
		all, _, e := All(c.text)
		if e != api.OK || kinds(all) != c.kinds || texts(all) != c.texts {
			t.Errorf("All(%q): %v, %v, want %s, %s", c.text, all, e, c.kinds, c.texts)
		}
	}
}

// 19.1: of each token its line, from 1 on, and the line at the end.
func TestLines(t *testing.T) {
	for _, c := range []struct {
		text  string
		lines []int
		end   int
	}{
		{"", nil, 1},
		{" \t ", nil, 1},
		{"\n", nil, 2},
		{"\n\n\n", nil, 4},
		{"a", []int{1}, 1},
		{"a\n", []int{1}, 2},
		{"\na", []int{2}, 2},
		{"a\nb", []int{1, 2}, 2},
		{"a b\n\nc\n", []int{1, 1, 3}, 4},
		{"# a", nil, 1},
		{"# a\n", nil, 2},
		{"#\n#\n", nil, 3},
		{"#\na#\nb", []int{2, 3}, 3},
		{"a # x\r\n1\n{", []int{1, 2, 3}, 3},
		{"1;\n2;", []int{1, 1, 2, 2}, 2},
		{"node r-1 home 10.0.0.0/8,# a b\n\n\t12%*x;", []int{1, 1, 1, 1, 1, 3, 3, 3, 3}, 3},
	} {
		all, end, e := All(c.text)
		var lines []int
		for _, token := range all {
			lines = append(lines, token.Line)
		}
		if e != api.OK || end != c.end || !slices.Equal(lines, c.lines) {
			t.Errorf("All(%q): lines %v, %d, %v, want %v, %d", c.text, lines, end, e, c.lines, c.end)
		}
		r, end, e := New(c.text)
		if e != api.OK || end != c.end {
			t.Errorf("New(%q): %d, %v, want %d", c.text, end, e, c.end)
		}
		rest(r)
		if r.Line() != c.end {
			t.Errorf("New(%q): at the end line %d, want %d", c.text, r.Line(), c.end)
		}
	}
}

// 19.1: ErrGrammar, with the line of the byte with which no token begins, and no tokens.
func TestNoTokens(t *testing.T) {
	for _, c := range []struct {
		text string
		line int
	}{
		{"A", 1}, {"Z", 1}, {"-", 1}, {"_", 1}, {"1 .", 1}, {"a1.2", 1}, {".", 1}, {"/", 1}, {"%", 1}, {"-a", 1}, {"_a", 1}, {".5", 1}, {"/8", 1}, {"%1", 1},
		{"(", 1}, {")", 1}, {"[", 1}, {"]", 1}, {":", 1}, {"=", 1}, {"+", 1}, {"?", 1}, {"!", 1}, {"\"", 1}, {"'", 1}, {"`", 1}, {"|", 1}, {"~", 1}, {"$", 1}, {"&", 1}, {"<", 1}, {">", 1}, {"@", 1}, {"\\", 1}, {"^", 1},
		{"\x00", 1}, {"\r", 1}, {"\v", 1}, {"\f", 1}, {"\b", 1}, {"\x1f", 1}, {"\x7f", 1}, {"\x80", 1}, {"\xff", 1}, {"\xc3", 1}, {"é", 1}, {"\u00a0", 1}, {"\u2028", 1}, {"\ufeff", 1}, {"１", 1}, {"٣", 1}, {"ａ", 1},
		{"a\nb\nC", 3}, {"a\nb\nC\n\n", 3}, {"\n\n.", 3}, {"# A\n# B\nC", 3}, {"a\r\nb", 1}, {"a\n\r\n", 2},
		{"aB", 1}, {"a.b", 1}, {"a/b", 1}, {"a%", 1}, {"1-2", 1}, {"1_2", 1}, {"1+2", 1}, {"a1.", 1}, {"{.}", 1}, {";-", 1}, {"aé", 1}, {"a\xff", 1}, {"1\x80", 1}, {"a\x00b", 1},
		{"node r;\nnode R;\nnode É;", 2}, {"A\nB\nC", 1},
	} {
		checkApart(t, c.text, nil, c.line, api.ErrGrammar)
		for _, head := range []string{"a ", "1 ", "{", "a 1 ; # x\n\n", "\t"} {
			checkApart(t, head+c.text, nil, c.line+strings.Count(head, "\n"), api.ErrGrammar)
			checkApart(t, head+c.text+" ; \n a", nil, c.line+strings.Count(head, "\n"), api.ErrGrammar)
		}
		checkApart(t, "# "+strings.ReplaceAll(c.text, "\n", "\n# "), nil, 1+strings.Count(c.text, "\n"), api.OK)
	}
}

// 19.1: each byte, at each place of some texts, against the patterns.
func TestEachByte(t *testing.T) {
	for _, text := range []string{"", "a", "1", ";", "#", "\n", "a1-_", "1./%2", "a 1;b", "x # y\nz", "\n{\n}\n", "via k,j*3 else k;"} {
		for at := 0; at <= len(text); at++ {
			for c := range 256 {
				put := text[:at] + string([]byte{byte(c)})
				for _, s := range []string{put + text[at:], put + text[min(at+1, len(text)):]} {
					want, line, e := apart(s)
					checkApart(t, s, want, line, e)
				}
			}
		}
	}
}

// 19.1: each pair of bytes against the patterns.
func TestEachPair(t *testing.T) {
	for a := range 256 {
		for b := range 256 {
			s := string([]byte{byte(a), byte(b)})
			want, line, e := apart(s)
			checkApart(t, s, want, line, e)
		}
	}
}

// shortTexts tells all texts of up to so many of these bytes.
func shortTexts(bytes string, most int, tell func(s string)) {
	var longer func(s string)
	longer = func(s string) {
		tell(s)
		if len(s) < most {
			for i := range len(bytes) {
				longer(s + bytes[i:i+1])
			}
		}
	}
	longer("")
}

// 19.1: all short texts against the patterns.
func TestShortTexts(t *testing.T) {
	shortTexts("az09-_./% \t\n#{,*A\xff", 3, func(s string) {
		want, line, e := apart(s)
		checkApart(t, s, want, line, e)
	})
	shortTexts("a1-.\n#;A", 5, func(s string) {
		want, line, e := apart(s)
		checkApart(t, s, want, line, e)
	})
}

// 19.1: long texts are taken apart as short ones are, and in no more time for each byte.
func TestLongTexts(t *testing.T) {
	const many = 1 << 20
	checkApart(t, strings.Repeat("a", many), []Token{tok(aWord, strings.Repeat("a", many))}, 1, api.OK)
	checkApart(t, strings.Repeat("1", many), []Token{tok(aFigure, strings.Repeat("1", many))}, 1, api.OK)
	checkApart(t, strings.Repeat(" ", many)+"a", []Token{tok(aWord, "a")}, 1, api.OK)
	checkApart(t, "#"+strings.Repeat("A", many), nil, 1, api.OK)
	checkApart(t, strings.Repeat("#", many)+"\n;", []Token{{Kind: aMark, Text: ";", Line: 2}}, 2, api.OK)
	checkApart(t, strings.Repeat("\n", many), nil, many+1, api.OK)
	checkApart(t, strings.Repeat("#\n", many)+"A", nil, many+1, api.ErrGrammar)
	checkApart(t, strings.Repeat("a", many)+"A", nil, 1, api.ErrGrammar)
	var want []Token
	for i := range many {
		want = append(want, Token{Kind: aWord, Text: "a1", Line: i + 1}, Token{Kind: aMark, Text: ";", Line: i + 1})
	}
	checkApart(t, strings.Repeat("a1;\n", many), want, many+1, api.OK)
}

// 19.2: New tells All's error and line; else a reader, and the line at the end. (See checkApart for the others.)
func TestNew(t *testing.T) {
	if r, line, e := New("a\nb C"); r != nil || line != 2 || e != api.ErrGrammar {
		t.Errorf("%v, %d, %v", r, line, e)
	}
	if r, line, e := New("a\nb\n"); r == nil || line != 3 || e != api.OK {
		t.Errorf("%v, %d, %v", r, line, e)
	}
	if r, line, e := New(""); r == nil || line != 1 || e != api.OK || !r.Done() || r.Line() != 1 {
		t.Errorf("%v, %d, %v", r, line, e)
	}
}

// 19.2: what each call answers of each kind of token, and whether it goes by.
func TestReader(t *testing.T) {
	words := []string{"a", "r-1", "nodes", "z_", "abcdefghijklmnop"}
	figures := []string{"0", "5", "12%", "10.0.0.0/8", "1./%"}
	marks := []string{"{", "}", ";", ",", "*"}
	for _, text := range slices.Concat(words, name.Keywords(), figures, marks) {
		fresh := func() *Reader {
			r, _, _ := New("\n" + text + "\n\nend")
			if r.Done() || r.Line() != 2 {
				t.Fatalf("%q: done %v, line %d", text, r.Done(), r.Line())
			}
			return r
		}
		gone := func(r *Reader) bool { return !r.Done() && r.Line() == 4 && r.Is("end") && !r.Is(text) }
		still := func(r *Reader) bool { return !r.Done() && r.Line() == 2 && r.Is(text) && !r.Is("end") }
		if r := fresh(); !r.Is(text) || !still(r) || !r.Is(text) {
			t.Errorf("Is(%q): false, or it goes by", text)
		}
		if r := fresh(); !r.Take(text) || !gone(r) || r.Take(text) || !gone(r) {
			t.Errorf("Take(%q): false, or it does not go by, or more does", text)
		}
		for _, other := range []string{"", " ", "b", text + " ", " " + text, text + "a", text + text, text[1:], strings.ToUpper(text) + "!", "end", "A", "\n", "#"} {
			if r := fresh(); other != text && (r.Is(other) || r.Take(other) || !still(r)) {
				t.Errorf("Is, Take(%q) of %q: true, or it goes by", other, text)
			}
		}
		r := fresh()
		got, ok := r.Name()
		if slices.Contains(words, text) {
			if got != text || !ok || !gone(r) {
				t.Errorf("Name of %q: %q, %v, or it does not go by, or more does", text, got, ok)
			}
		} else if got != "" || ok || !still(r) {
			t.Errorf("Name of %q: %q, %v, or it goes by", text, got, ok)
		}
		r = fresh()
		got, ok = r.Figure()
		if slices.Contains(figures, text) {
			if got != text || !ok || !gone(r) {
				t.Errorf("Figure of %q: %q, %v, or it does not go by, or more does", text, got, ok)
			}
		} else if got != "" || ok || !still(r) {
			t.Errorf("Figure of %q: %q, %v, or it goes by", text, got, ok)
		}
	}
}

// checkNone holds what a reader answers that has nothing left, time and again.
func checkNone(t *testing.T, r *Reader, line int) {
	t.Helper()
	for range 3 {
		for _, text := range []string{"", "a", "1", ";", "node", " ", "\n"} {
			if r.Is(text) || r.Take(text) {
				t.Errorf("Is, Take(%q): true, where nothing is left", text)
			}
		}
		if text, ok := r.Name(); text != "" || ok {
			t.Errorf("Name: %q, %v, where nothing is left", text, ok)
		}
		if text, ok := r.Figure(); text != "" || ok {
			t.Errorf("Figure: %q, %v, where nothing is left", text, ok)
		}
		if !r.Done() || r.Line() != line {
			t.Errorf("done %v, line %d, want true, %d", r.Done(), r.Line(), line)
		}
	}
}

// 19.2: where no token is left; and of nil.
func TestNoneLeft(t *testing.T) {
	for _, c := range []struct {
		text string
		line int
	}{{"", 1}, {"a", 1}, {"a 1 ;", 1}, {"a\n1\n;", 3}, {"node\n\n# x\n", 4}, {"\n\n", 3}, {"#", 1}} {
		r, _, e := New(c.text)
		if e != api.OK {
			t.Fatalf("New(%q): %v", c.text, e)
		}
		rest(r)
		checkNone(t, r, c.line)
	}
	checkNone(t, nil, 0)
}

// model is a reader told once more, over what All told.
type model struct {
	all []Token
	at  int
	end int
}

// put calls both, the reader and the model, by the number of a call, and tells where they differ.
func (m *model) put(r *Reader, call int) string {
	var here Token
	if m.at < len(m.all) {
		here = m.all[m.at]
	}
	texts := []string{"node", "a", "1", ";", ""}
	var got, want string
	switch {
	case call < 5:
		is := here.Text == texts[call] && here.Kind != 0
		got, want = fmt.Sprint(r.Take(texts[call])), fmt.Sprint(is)
		if is {
			m.at++
		}
	case call == 5:
		text, ok := r.Name()
		is := here.Kind == aWord && !name.Keyword(here.Text)
		got, want = fmt.Sprintf("%q %v", text, ok), `"" false`
		if is {
			want = fmt.Sprintf("%q true", here.Text)
			m.at++
		}
	case call == 6:
		text, ok := r.Figure()
		got, want = fmt.Sprintf("%q %v", text, ok), `"" false`
		if here.Kind == aFigure {
			want = fmt.Sprintf("%q true", here.Text)
			m.at++
		}
	}
	line := m.end
	if m.at < len(m.all) {
		line = m.all[m.at].Line
	}
	got += fmt.Sprint(" ", r.Done(), r.Line())
	want += fmt.Sprint(" ", m.at == len(m.all), line)
	for _, text := range texts {
		got += fmt.Sprint(" ", r.Is(text))
		want += fmt.Sprint(" ", m.at < len(m.all) && m.all[m.at].Text == text)
	}
	if got != want {
		return got + ", want " + want
	}
	return ""
}

// 19.2, P2: all short rows of calls, over texts of some tokens, against the model; what is refused changes nothing.
func TestRowsOfCalls(t *testing.T) {
	const calls, most = 7, 5
	count := 1
	for range most {
		count *= calls
	}
	for _, text := range []string{"", "node a 1 ;", "a\na\n1", ";\n1 # x\nnode\n", "1 1 a a"} {
		for number := range count {
			r, end, _ := New(text)
			all, _, _ := All(text)
			m := &model{all: all, end: end}
			for left, i := number, 0; i < most; left, i = left/calls, i+1 {
				if fault := m.put(r, left%calls); fault != "" {
					t.Fatalf("text %q, row %d, call %d: %s", text, number, i, fault)
				}
			}
		}
	}
}

// 19.2: a word that is a keyword goes by with Take, not with Name; one that is as long as one likes is a name.
func TestKeywords(t *testing.T) {
	keywords := name.Keywords()
	r, _, e := New(strings.Join(keywords, " "))
	if e != api.OK {
		t.Fatal(e)
	}
	for _, keyword := range keywords {
		if text, ok := r.Name(); text != "" || ok {
			t.Errorf("Name of %q: %q, %v", keyword, text, ok)
		}
		if !r.Take(keyword) {
			t.Errorf("Take(%q): false", keyword)
		}
	}
	checkNone(t, r, 1)
	long := strings.Repeat("long", 1000)
	r, _, _ = New(long + "\n")
	if text, ok := r.Name(); text != long || !ok {
		t.Errorf("Name of a long one: %q, %v", text, ok)
	}
	checkNone(t, r, 2)
}

// 19.3: the tokens' texts, a blank between each two, have the same tokens, but for lines.
func TestJoined(t *testing.T) {
	check := func(s string) {
		all, _, e := All(s)
		if e != api.OK {
			return
		}
		again, line, e := All(texts(all))
		if e != api.OK || line != 1 || kinds(again) != kinds(all) || texts(again) != texts(all) {
			t.Fatalf("%q: %v, then %v, %d, %v", s, all, again, line, e)
		}
		for _, token := range again {
			if token.Line != 1 {
				t.Fatalf("%q: line %d", s, token.Line)
			}
		}
	}
	check("network a { node s; node h home 10.0.0.0/8;\nlink k s h fail 25%;# x\nlink j s s fail 0; rule s 0.0.0.0/0 via k,\n\tj*3; }")
	shortTexts("a1-.\n#;*/", 5, check)
}

// P1: where a line is told with an error, all else is zero; calls at all texts end.
func TestZeroBesideError(t *testing.T) {
	shortTexts("a1-.\n#;\x00\x80", 4, func(s string) {
		all, line, e := All(s)
		r, at, told := New(s)
		if e != told || line != at {
			t.Fatalf("%q: All tells %d, %v, New %d, %v", s, line, e, at, told)
		}
		if e != api.OK && (all != nil || r != nil || e != api.ErrGrammar || line < 1) {
			t.Fatalf("%q: %v, %v, %d, %v", s, all, r, line, e)
		}
	})
}

// Rule 4: what was handed out is not changed by a later call, nor changes what one answers.
func TestNothingShared(t *testing.T) {
	const text = "node a\n1 ;"
	first, _, _ := All(text)
	want := slices.Clone(first)
	r, _, _ := New(text)
	s, _, _ := New(text)
	second, _, _ := All(text)
	for i := range first {
		first[i] = Token{Kind: 9, Text: "changed", Line: 9}
	}
	_ = append(first[:0], Token{})
	if !sameTokens(second, want) || !sameTokens(rest(r), want) {
		t.Error("a list that was handed out is another one's")
	}
	if s.Done() || s.Line() != 1 || !s.Is("node") || !sameTokens(rest(s), want) {
		t.Error("readers of one text go by together")
	}
	third, _, _ := All(text)
	if !sameTokens(third, want) {
		t.Error("a later call tells something else")
	}
}

// The tokens that are told one by one may be left off at any of them, and gone over again.
func TestToldOneByOne(t *testing.T) {
	const text = "a\n1 ; C"
	told := tokens(text)
	for most := range 5 {
		var l []Token
		var errs []api.Errno
		for token, e := range told {
			if len(l) == most {
				break
			}
			l, errs = append(l, token), append(errs, e)
		}
		all := []Token{{aWord, "a", 1}, {aFigure, "1", 2}, {aMark, ";", 2}, {Line: 2}}
		if !sameTokens(l, all[:most]) || !slices.Equal(errs, []api.Errno{0, 0, 0, api.ErrGrammar}[:most]) {
			t.Errorf("the first %d: %v, %v", most, l, errs)
		}
	}
}

// Signatures and the token's fields are those of the chapter.
func TestSignatures(t *testing.T) {
	var _ func(string) ([]Token, int, api.Errno) = All
	var _ func(string) (*Reader, int, api.Errno) = New
	var _ interface {
		Done() bool
		Line() int
		Is(text string) bool
		Take(text string) bool
		Name() (string, bool)
		Figure() (string, bool)
	} = (*Reader)(nil)
	if got := fmt.Sprintf("%v", reflect.ValueOf(Token{1, "a", 2})); got != "{1 a 2}" {
		t.Errorf("a token: %s", got)
	}
}
