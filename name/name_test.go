package name

import (
	"regexp"
	"slices"
	"strings"
	"testing"

	"trivium/api"
)

// inOrder are the keywords, as the chapter names them.
const inOrder = "network node home link fail rule drop via else prob hops within compare"

// keywords are these, one by one.
func keywords() []string { return strings.Split(inOrder, " ") }

// words is what a word is, told once more.
var words = regexp.MustCompile(`\A[a-z][a-z0-9_-]*\z`)

// goodWords are words, and no keywords.
var goodWords = []string{
	"a", "z", "m", "aa", "az", "zz", "r1", "a0", "a9", "z09", "a-", "a_", "a--", "a__", "a-_-", "a-1_b", "a1b2c3", "abcdefghijklmnopqrstuvwxyz", "q0123456789", "h-0_", "net-1",
	"viab", "via1", "via-", "via_", "vi", "xvia", "nodes", "nod", "ode", "networks", "networ", "network1", "nodenode", "node-link", "linkfail", "e", "els", "elsewhere", "hop", "probe", "comparer", "with", "in", "drop-", "deliver", "loop",
	strings.Repeat("a", 12), strings.Repeat("a", 13), strings.Repeat("z-9_", 20000),
}

// noWords are no words.
var noWords = []string{
	"", " ", "1", "0", "9", "-", "_", "--", "__", "1r", "9a", "0a", "-a", "_a", "-1", "_1", "1-a", "1via",
	"A", "Z", "Aa", "aA", "aZ", "aaA", "aAa", "Node", "NODE", "nodE", "Via",
	" a", "a ", "a b", "a\t", "\ta", "a\n", "\na", "a\nb", "node\n", "a\r", "a\x00", "\x00a", "\x00",
	"a.", "a.b", "a/b", "a%", "a;", "a,", "a*", "a{", "a}", "a#", "a+", "a:", "a'", "a`", "a@", "a[", "a^", "a~", "a|", "a!", "a=", "a\\", "{", "`", "@", "[", "/", ":",
	"é", "aé", "éa", "aéb", "ä", "ß", "aß", "ａ", "aａ", "а", "aа", "a٣", "a１", "a²", "a–b", "a‐b", "a＿b", "š", "aš", "a\u0161b", "\u0130", "a\u0131", "\u0961", "a\U00010061", "𝐚", "a\u0301", "\ufeffa", "a\u200b",
	"\xff", "a\xff", "\xffa", "a\xffb", "\x80", "a\x80", "a\xc3", "\xc3a", "a\xe1\xe2", "a\xe2\x80b", "\xc1\xa1", "a\xc1\xa1", "a\xed\xa0\x80", "\ufffd", "a\ufffd",
	strings.Repeat("a", 50000) + "A", strings.Repeat("a", 50000) + "\xff", strings.Repeat("a", 25000) + "." + strings.Repeat("a", 25000), "1" + strings.Repeat("a", 50000),
}

// allTexts are all texts of up to so many of these signs, with the empty one.
func allTexts(longest int, signs ...string) []string {
	l, last := []string{""}, []string{""}
	for range longest {
		var longer []string
		for _, s := range last {
			for _, sign := range signs {
				longer = append(longer, s+sign)
			}
		}
		l, last = append(l, longer...), longer
	}
	return l
}

// checkOne holds what is told of s against what is known of it.
func checkOne(t *testing.T, s string) {
	t.Helper()
	word, keyword := words.MatchString(s), slices.Contains(keywords(), s)
	if got := Word(s); got != word {
		t.Errorf("Word(%.60q): %v", s, got)
	}
	if got := Keyword(s); got != keyword {
		t.Errorf("Keyword(%.60q): %v", s, got)
	}
	if got := Name(s); got != (word && !keyword) {
		t.Errorf("Name(%.60q): %v", s, got)
	}
	if got := Long(s); got != (len(s) > 12) {
		t.Errorf("Long(%.60q) of %d bytes: %v", s, len(s), got)
	}
}

// 17.1: Word, Keyword, Name, Long.

func TestWord(t *testing.T) {
	for _, s := range slices.Concat(goodWords, keywords()) {
		if !Word(s) {
			t.Errorf("Word(%.60q): false", s)
		}
	}
	for _, s := range noWords {
		if Word(s) {
			t.Errorf("Word(%.60q): true", s)
		}
	}
}

func TestKeyword(t *testing.T) {
	for _, s := range keywords() {
		if !Keyword(s) {
			t.Errorf("Keyword(%q): false", s)
		}
		for _, near := range []string{s + s, s + " ", " " + s, s + "\n", s + "\x00", s + "s", "s" + s, s[1:], s[:len(s)-1], strings.ToUpper(s), strings.ToUpper(s[:1]) + s[1:], s + "-", s + "1", s + "\xff"} {
			if Keyword(near) {
				t.Errorf("Keyword(%q): true", near)
			}
		}
	}
	for _, s := range slices.Concat(goodWords, noWords, []string{inOrder, "node home", "nodehome", "deliver", "loop", "config", "queries"}) {
		if Keyword(s) {
			t.Errorf("Keyword(%.60q): true", s)
		}
	}
}

func TestName(t *testing.T) {
	for _, s := range goodWords {
		if !Name(s) {
			t.Errorf("Name(%.60q): false", s)
		}
	}
	for _, s := range slices.Concat(noWords, keywords(), []string{"1r", "node"}) { // the example's two stand last
		if Name(s) {
			t.Errorf("Name(%.60q): true", s)
		}
	}
}

// Bytes count, not signs; and whether it is a name does not.
func TestLong(t *testing.T) {
	for _, s := range []string{"", "a", "node", "1r", "abcdefghijkl", "ABCDEFGHIJKL", "            ", strings.Repeat("é", 6), strings.Repeat("𝐚", 3), strings.Repeat("\xff", 12), strings.Repeat("\x00", 12), strings.Repeat("a", api.MaxName)} {
		if Long(s) {
			t.Errorf("Long(%q): true", s)
		}
	}
	for _, s := range []string{"abcdefghijklm", "ABCDEFGHIJKLM", "             ", strings.Repeat("é", 7), "a" + strings.Repeat("é", 6), strings.Repeat("𝐚", 4), strings.Repeat("\xff", 13), strings.Repeat("\x00", 13), inOrder, strings.Repeat("a", api.MaxName+1), strings.Repeat("a", 100000)} {
		if !Long(s) {
			t.Errorf("Long(%.60q): false", s)
		}
	}
}

// A name that is too long is a name nonetheless.
func TestLongNames(t *testing.T) {
	for n := 1; n < 40; n++ {
		s := strings.Repeat("n", n)
		if !Word(s) || !Name(s) || Long(s) != (n > 12) {
			t.Errorf("%d bytes: %v, %v, %v", n, Word(s), Name(s), Long(s))
		}
	}
}

// Each byte, and each two, stand for what they are.
func TestAllBytes(t *testing.T) {
	for a := range 256 {
		one := string([]byte{byte(a)})
		checkOne(t, one)
		for _, around := range []string{"a|b", "|a", "a|", "1|a", "a1-_|z", "node|", "|node", "no|de", "aaaaaaaaaaa|", "aaaaaaaaaaaa|"} {
			checkOne(t, strings.ReplaceAll(around, "|", one))
		}
		for b := range 256 {
			checkOne(t, string([]byte{byte(a), byte(b)}))
		}
	}
}

// So does each sign of more than one byte: none of them is one that a name has.
func TestAllSigns(t *testing.T) {
	for r := rune(128); r <= 0x10ffff; r++ {
		if sign := string(r); Word(sign) || Word("a"+sign) || Name(sign) || Name("a"+sign) {
			t.Fatalf("%U is taken", r)
		}
	}
}

func TestAllShortTexts(t *testing.T) {
	for _, s := range allTexts(5, "a", "z", "0", "9", "-", "_", "A", " ") {
		checkOne(t, s)
	}
	for _, s := range allTexts(2, append(keywords(), "-", "a", "1")...) {
		checkOne(t, s)
	}
}

// 17.2: Keywords, Twice.

func TestKeywords(t *testing.T) {
	if got := strings.Join(Keywords(), " "); got != inOrder {
		t.Errorf("Keywords(): %s, want %s", got, inOrder)
	}
	if n := len(Keywords()); n != 13 {
		t.Errorf("Keywords(): %d of them", n)
	}
}

func TestTwice(t *testing.T) {
	for _, c := range []struct {
		l    []string
		want string
		is   bool
	}{
		{nil, "", false},
		{[]string{}, "", false},
		{[]string{"x"}, "", false},
		{[]string{""}, "", false},
		{[]string{"", ""}, "", true},
		{[]string{"", "x"}, "", false},
		{[]string{"x", "", "y", ""}, "", true},
		{[]string{"x", "y"}, "", false},
		{[]string{"x", "x"}, "x", true},
		{[]string{"x", "x", "x"}, "x", true},
		{[]string{"x", "y", "x"}, "x", true},
		{[]string{"x", "y", "y"}, "y", true},
		{[]string{"x", "x", "y", "y"}, "x", true},
		{[]string{"x", "y", "z", "y", "x"}, "y", true}, // that which comes again first, not that which stood first
		{[]string{"x", "y", "y", "x"}, "y", true},
		{[]string{"x", "y", "x", "y"}, "x", true},
		{[]string{"b", "a", "a", "b"}, "a", true},
		{[]string{"a", "b", "b", "a"}, "b", true},
		{[]string{"a", "aa", "aaa", ""}, "", false},
		{[]string{"a", "A"}, "", false},
		{[]string{"a", " a", "a ", "a\x00", "a\n"}, "", false},
		{[]string{"ab", "c", "a", "bc"}, "", false},
		{[]string{"é", "e\u0301"}, "", false},
		{[]string{"é", "e", "é"}, "é", true},
		{[]string{"\xff", "\xfe", "\ufffd"}, "", false},
		{[]string{"\xff", "\xfe", "\xff"}, "\xff", true},
		{[]string{"\x00", "", "\x00\x00"}, "", false},
		{[]string{"node", "Node", "1", "01"}, "", false},
		{keywords(), "", false},
		{append(keywords(), "hops"), "hops", true},
	} {
		if got, is := Twice(c.l...); got != c.want || is != c.is {
			t.Errorf("Twice(%q): %q, %v, want %q, %v", c.l, got, is, c.want, c.is)
		}
	}
}

// again is what Twice asks for, looked for text by text.
func again(l []string) (string, bool) {
	for i, s := range l {
		if slices.Contains(l[:i], s) {
			return s, true
		}
	}
	return "", false
}

func TestTwiceOfAllShortLists(t *testing.T) {
	for _, s := range allTexts(6, "x", "y", "z", ",", "xy") {
		l := strings.Split(s, ",")
		want, wanted := again(l)
		if got, is := Twice(l...); got != want || is != wanted {
			t.Errorf("Twice(%q): %q, %v, want %q, %v", l, got, is, want, wanted)
		}
	}
}

func TestTwiceOfMany(t *testing.T) {
	l := make([]string, 100000)
	for i := range l {
		l[i] = strings.Repeat("-", i%3) + string(rune(0x10000+i))
	}
	if got, is := Twice(l...); got != "" || is {
		t.Errorf("Twice of so many that are not the same: %q, %v", got, is)
	}
	for _, at := range []int{0, 1, 50000, len(l) - 1} {
		if got, is := Twice(append(slices.Clone(l), l[at])...); got != l[at] || !is {
			t.Errorf("Twice, with the one at %d again: %q, %v", at, got, is)
		}
	}
	if got, is := Twice(slices.Concat(l, l)...); got != l[0] || !is {
		t.Errorf("Twice of all of them, again: %q, %v", got, is)
	}
}

// 17.3.

func TestKeywordsAreWordsAndNoNames(t *testing.T) {
	for _, s := range Keywords() {
		if !Word(s) || !Keyword(s) || Name(s) || Long(s) {
			t.Errorf("%q: Word %v, Keyword %v, Name %v, Long %v", s, Word(s), Keyword(s), Name(s), Long(s))
		}
	}
	if s, is := Twice(Keywords()...); is {
		t.Errorf("%q is a keyword twice", s)
	}
}

func TestANameAndALetterIsAWord(t *testing.T) {
	for _, s := range slices.Concat(goodWords, allTexts(4, "a", "v", "i", "-", "_", "7", "B")) {
		if !Name(s) {
			continue
		}
		for letter := 'a'; letter <= 'z'; letter++ {
			if !Word(s + string(letter)) {
				t.Errorf("Word(%.60q): false", s+string(letter))
			}
		}
	}
}

// P1, P2, and the rules. (No call is ever refused, and none takes a list but Twice.)

func TestEveryCallAnswers(t *testing.T) {
	for _, s := range slices.Concat(noWords, goodWords, keywords()) {
		checkOne(t, s)
		checkOne(t, s) // and asked again the same
	}
}

func TestWhatIsHandedInIsNotChanged(t *testing.T) {
	for _, l := range [][]string{{"x", "y", "z", "y", "x"}, {"b", "a", "c"}, {"", ""}} {
		was := slices.Clone(l)
		Twice(l...)
		if !slices.Equal(l, was) {
			t.Errorf("Twice(%q) makes %q of it", was, l)
		}
	}
}

// What was handed out may be changed: neither a later list of keywords, nor what is told of them, changes with it.
func TestMemoryIsNotShared(t *testing.T) {
	kept, spoilt := Keywords(), Keywords()
	for i := range spoilt {
		spoilt[i] = "spoilt"
	}
	_ = append(spoilt[:0], "more")
	if !slices.Equal(kept, keywords()) || !slices.Equal(Keywords(), keywords()) {
		t.Errorf("Keywords(): %q, %q, behind one that was spoilt", kept, Keywords())
	}
	for _, s := range keywords() {
		if !Keyword(s) || Name(s) {
			t.Errorf("%q is no keyword any more", s)
		}
	}
	if Keyword("spoilt") || Keyword("more") || !Name("spoilt") {
		t.Error("a keyword was put in from outside")
	}
}

// Nothing is kept from call to call.
func TestTwiceForgets(t *testing.T) {
	for range 2 {
		if s, is := Twice("x", "y"); is {
			t.Errorf("Twice(x, y): %q", s)
		}
		if s, is := Twice("y", "y"); s != "y" || !is {
			t.Errorf("Twice(y, y): %q, %v", s, is)
		}
	}
}
