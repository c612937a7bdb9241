package digits

import (
	"encoding/binary"
	"math"
	"math/big"
	"slices"
	"strings"
	"testing"

	"trivium/api"
)

const top = 1<<32 - 1 // the greatest limb

// edges are numbers that may be, at the ends of limbs, and of what many digits make.
var edges = []api.Nat{
	nil, {}, {1}, {2}, {9}, {10}, {11}, {35}, {36}, {99}, {100}, {1295}, {1296},
	{1 << 16}, {1 << 31}, {1<<31 - 1}, {999999999}, {1000000000}, {1000000001}, {top - 1}, {top},
	{0, 1}, {1, 1}, {top, 1}, {0, 6}, {0, 1 << 31}, {0, top}, {top, top}, {top - 1, top},
	{0, 0, 1}, {5, 0, 1}, {0, 0, 1 << 31}, {0, 0, 0, 1}, {0, 0, 0, 0, 1}, {0, 0, 0, 0, 0, 0, 0, 0, 1}, ones(3), ones(4), ones(9),
}

// wrong are lists of limbs that are no numbers.
var wrong = []api.Nat{
	{0}, {0, 0, 0, 0, 0}, {7, 0}, {1, 2, 3, 4, 0}, {1 << 32}, {1<<64 - 1}, {1 << 63}, {0, 1 << 32},
	{5, 1 << 32}, {5, 1 << 63}, {1, 1, 1, 1 << 32, 1 << 32}, slices.Repeat(api.Nat{1 << 63}, 4),
	slices.Repeat(api.Nat{1<<64 - 1}, 7), make(api.Nat, 40), append(ones(9), 0, 0), append(make(api.Nat, 99), 1<<40),
}

// noBases are numbers for which there are no digits.
var noBases = []int{math.MinInt, -1 << 32, -36, -10, -2, -1, 0, 1, 37, 38, 62, 64, 1 << 32, 1<<32 + 10, math.MaxInt}

// noDigits are texts that are none by any base.
var noDigits = []string{
	"", " ", "-", "+", ".", "_", "/", ":", "@", "[", "`", "{", "%", "-1", "+1", "-0", " 1", "1 ", "1\n", "\t1", "1 1", "1_0", "1.0", "1/1", "1,0", "1%",
	"0B", "0X", "A", "Z", "1A", "F0", "1Z1", "0/", "0:", "0@", "0[", "0`", "0{",
	"\x00", "1\x00", "\xff", "1\xff", "\xff1", "1\xc3", "\xed\xa0\x80", "\ufffd", "1\ufffd", "\u0661", "\uff11", "1\u00b2", "\u0430", "\U0001d7d8", "\U0010ffff",
	strings.Repeat("1", 500) + "-", "!" + strings.Repeat("0", 500), strings.Repeat("0", 250) + "\u00e9" + strings.Repeat("0", 250),
}

// ones is the number of n limbs, all of them as great as can be.
func ones(n int) api.Nat { return slices.Repeat(api.Nat{top}, n) }

// drawn is a number of n limbs, for each seed above 0 another one, always the same; many of its limbs are at the ends.
func drawn(n int, seed uint64) api.Nat {
	a, x := make(api.Nat, n), seed*88172645463325252
	for i := range a {
		x ^= x << 13
		x ^= x >> 7
		x ^= x << 17
		switch x % 7 {
		case 0: // left as it is
		case 1:
			a[i] = top
		case 2:
			a[i] = 1 << 31
		default:
			a[i] = x >> 32
		}
	}
	if n > 0 {
		a[n-1] = max(a[n-1], 1)
	}
	return a
}

// bases are all of them.
func bases() []int {
	var l []int
	for base := 2; base <= 36; base++ {
		l = append(l, base)
	}
	return l
}

// samples are the edges, the numbers about the powers of a base, and two of each length up to longest.
func samples(longest, base int) []api.Nat {
	l := slices.Clone(edges)
	for n := range 6 * longest {
		power := new(big.Int).Exp(big.NewInt(int64(base)), big.NewInt(int64(n)), nil)
		l = append(l, back(new(big.Int).Sub(power, big.NewInt(1))), back(power), back(new(big.Int).Add(power, big.NewInt(1))))
	}
	for n := 1; n <= longest; n++ {
		l = append(l, drawn(n, uint64(n)), drawn(n, uint64(n)+1000))
	}
	return l
}

// of is a as a number of math/big, so that nothing here reckons as the package does.
func of(a api.Nat) *big.Int {
	var l []byte
	for _, x := range slices.Backward(a) {
		l = binary.BigEndian.AppendUint32(l, uint32(x))
	}
	return new(big.Int).SetBytes(l)
}

// back is the number n of math/big as it may be here.
func back(n *big.Int) api.Nat {
	var a api.Nat
	for n = new(big.Int).Set(n); n.Sign() > 0; n.Rsh(n, 32) {
		a = append(a, new(big.Int).And(n, big.NewInt(top)).Uint64())
	}
	return a
}

// 6.1: Print, Parse, Count.

func TestPrint(t *testing.T) {
	for _, c := range []struct {
		a    api.Nat
		want string
	}{
		{nil, "0"},
		{api.Nat{}, "0"},
		{api.Nat{1}, "1"},
		{api.Nat{9}, "9"},
		{api.Nat{10}, "10"},
		{api.Nat{100}, "100"},
		{api.Nat{101}, "101"},
		{api.Nat{999999999}, "999999999"},
		{api.Nat{1000000000}, "1000000000"},
		{api.Nat{1000000007}, "1000000007"},
		{api.Nat{top}, "4294967295"},
		{api.Nat{0, 1}, "4294967296"},
		{api.Nat{2808348672, 232830643}, "1000000000000000000"},
		{api.Nat{top, top}, "18446744073709551615"},
		{api.Nat{0, 0, 1}, "18446744073709551616"},
		{api.Nat{1661992960, 1808227885, 5}, "100000000000000000000"},
		{api.Nat{0, 0, 0, 0, 1}, "340282366920938463463374607431768211456"},
	} {
		if text := Print(c.a); text != c.want {
			t.Errorf("Print(%v): %q, want %q", c.a, text, c.want)
		}
		if n := Count(c.a); n != len(c.want) {
			t.Errorf("Count(%v): %d, want %d", c.a, n, len(c.want))
		}
		if a, e := Parse(c.want); !slices.Equal(a, c.a) || e != api.OK {
			t.Errorf("Parse(%q): %v, %v, want %v", c.want, a, e, c.a)
		}
	}
}

func TestParse(t *testing.T) {
	for _, c := range []struct {
		s    string
		want api.Nat
		e    api.Errno
	}{
		{"0", nil, api.OK},
		{"00", nil, api.OK},
		{strings.Repeat("0", 100), nil, api.OK},
		{"7", api.Nat{7}, api.OK},
		{"007", api.Nat{7}, api.OK},
		{strings.Repeat("0", 100) + "4294967296", api.Nat{0, 1}, api.OK},
		{"0000000001000000000", api.Nat{1000000000}, api.OK},
		{"1234567890", api.Nat{1234567890}, api.OK},
		{"", nil, api.ErrText},
		{"a", nil, api.ErrText},
		{"12a", nil, api.ErrText},
		{"a12", nil, api.ErrText},
		{"0x10", nil, api.ErrText},
		{"1e3", nil, api.ErrText},
		{"123456789a123456789", nil, api.ErrText},
		{"12345678901234567890 ", nil, api.ErrText},
	} {
		if a, e := Parse(c.s); !slices.Equal(a, c.want) || e != c.e {
			t.Errorf("Parse(%q): %v, %v, want %v, %v", c.s, a, e, c.want, c.e)
		}
	}
	for _, s := range noDigits {
		if a, e := Parse(s); a != nil || e != api.ErrText {
			t.Errorf("Parse(%q): %v, %v, want %v", s, a, e, api.ErrText)
		}
	}
}

// Of each byte there is one answer: ten are digits.
func TestParseOfEachByte(t *testing.T) {
	for n := range 256 {
		s := string([]byte{byte(n)})
		want, e := api.Nat(nil), api.ErrText
		if n >= '0' && n <= '9' {
			want, e = back(big.NewInt(int64(n-'0'))), api.OK
		}
		if a, got := Parse(s); !slices.Equal(a, want) || got != e {
			t.Errorf("Parse(%q): %v, %v, want %v, %v", s, a, got, want, e)
		}
	}
}

func TestPrintParseAndCountOfMany(t *testing.T) {
	for _, a := range samples(30, 10) {
		want := of(a).String()
		if text := Print(a); text != want {
			t.Fatalf("Print(%v): %q, want %q", a, text, want)
		}
		if n := Count(a); n != len(want) {
			t.Fatalf("Count(%v): %d, want %d", a, n, len(want))
		}
		if b, e := Parse(want); !slices.Equal(b, a) || e != api.OK {
			t.Fatalf("Parse(%q): %v, %v, want %v", want, b, e, a)
		}
	}
}

// 6.2: In, From.

func TestIn(t *testing.T) {
	for _, c := range []struct {
		a    api.Nat
		base int
		want string
	}{
		{nil, 2, "0"},
		{api.Nat{}, 36, "0"},
		{api.Nat{1}, 2, "1"},
		{api.Nat{2}, 2, "10"},
		{api.Nat{5}, 2, "101"},
		{api.Nat{8}, 3, "22"},
		{api.Nat{9}, 3, "100"},
		{api.Nat{10}, 11, "a"},
		{api.Nat{10}, 16, "a"},
		{api.Nat{15}, 16, "f"},
		{api.Nat{16}, 16, "10"},
		{api.Nat{35}, 36, "z"},
		{api.Nat{36}, 36, "10"},
		{api.Nat{1295}, 36, "zz"},
		{api.Nat{34}, 35, "y"},
		{api.Nat{3735928559}, 16, "deadbeef"},
		{api.Nat{268435456}, 16, "10000000"},
		{api.Nat{0, 1}, 16, "100000000"},
		{api.Nat{1 << 31}, 2, "1" + strings.Repeat("0", 31)},
		{api.Nat{top}, 2, strings.Repeat("1", 32)},
		{api.Nat{0, 0, 0, 0, 1}, 16, "1" + strings.Repeat("0", 32)},
		{ones(4), 16, strings.Repeat("f", 32)},
		{ones(4), 8, "3" + strings.Repeat("7", 42)},
		{api.Nat{0, 1}, 10, "4294967296"},
	} {
		if text, e := In(c.a, c.base); text != c.want || e != api.OK {
			t.Errorf("In(%v, %d): %q, %v, want %q", c.a, c.base, text, e, c.want)
		}
		if a, e := From(c.want, c.base); !slices.Equal(a, c.a) || e != api.OK {
			t.Errorf("From(%q, %d): %v, %v, want %v", c.want, c.base, a, e, c.a)
		}
	}
}

func TestFrom(t *testing.T) {
	for _, c := range []struct {
		s    string
		base int
		want api.Nat
		e    api.Errno
	}{
		{"0", 2, nil, api.OK},
		{strings.Repeat("0", 70), 2, nil, api.OK},
		{"0001", 2, api.Nat{1}, api.OK},
		{"2", 2, nil, api.ErrText},
		{"0102", 2, nil, api.ErrText},
		{"2010", 2, nil, api.ErrText},
		{strings.Repeat("1", 31) + "2" + strings.Repeat("1", 31), 2, nil, api.ErrText},
		{"2", 3, api.Nat{2}, api.OK},
		{"8", 8, nil, api.ErrText},
		{"9", 10, api.Nat{9}, api.OK},
		{"a", 10, nil, api.ErrText},
		{"a", 11, api.Nat{10}, api.OK},
		{"b", 11, nil, api.ErrText},
		{"00ff", 16, api.Nat{255}, api.OK},
		{"FF", 16, nil, api.ErrText},
		{"fF", 16, nil, api.ErrText},
		{"0xff", 16, nil, api.ErrText},
		{"fg", 16, nil, api.ErrText},
		{"0xff", 36, api.Nat{43323}, api.OK},
		{"z", 36, api.Nat{35}, api.OK},
		{"Z", 36, nil, api.ErrText},
		{"z", 35, nil, api.ErrText},
		{"y", 35, api.Nat{34}, api.OK},
		{"{", 36, nil, api.ErrText},
		{"", 2, nil, api.ErrText},
		{"", 36, nil, api.ErrText},
	} {
		if a, e := From(c.s, c.base); !slices.Equal(a, c.want) || e != c.e {
			t.Errorf("From(%q, %d): %v, %v, want %v, %v", c.s, c.base, a, e, c.want, c.e)
		}
	}
	for _, base := range bases() {
		for _, s := range noDigits {
			if a, e := From(s, base); a != nil || e != api.ErrText {
				t.Errorf("From(%q, %d): %v, %v, want %v", s, base, a, e, api.ErrText)
			}
		}
	}
}

// Of each byte, by each base, there is one answer: so many are digits as the base says.
func TestFromOfEachByte(t *testing.T) {
	for _, base := range bases() {
		for n := range 256 {
			s := string([]byte{byte(n)})
			want, e := api.Nat(nil), api.ErrText
			if count := strings.Index("0123456789abcdefghijklmnopqrstuvwxyz", s); count >= 0 && count < base {
				want, e = back(big.NewInt(int64(count))), api.OK
			}
			for _, ahead := range []string{"", "0", strings.Repeat("0", 40)} {
				if a, got := From(ahead+s, base); !slices.Equal(a, want) || got != e {
					t.Fatalf("From(%q, %d): %v, %v, want %v, %v", ahead+s, base, a, got, want, e)
				}
			}
		}
	}
}

// ErrArg is told first, whatever the text is.
func TestNoBases(t *testing.T) {
	for _, base := range noBases {
		for _, a := range append(samples(2, 10), wrong...) {
			if text, e := In(a, base); text != "" || e != api.ErrArg {
				t.Fatalf("In(%v, %d): %q, %v", a, base, text, e)
			}
		}
		for _, s := range append([]string{"0", "1", "10", "zz"}, noDigits...) {
			if a, e := From(s, base); a != nil || e != api.ErrArg {
				t.Fatalf("From(%q, %d): %v, %v", s, base, a, e)
			}
		}
	}
}

func TestInAndFromOfMany(t *testing.T) {
	for _, base := range bases() {
		for _, a := range samples(20, base) {
			want := of(a).Text(base)
			if text, e := In(a, base); text != want || e != api.OK {
				t.Fatalf("In(%v, %d): %q, %v, want %q", a, base, text, e, want)
			}
			if b, e := From(want, base); !slices.Equal(b, a) || e != api.OK {
				t.Fatalf("From(%q, %d): %v, %v, want %v", want, base, b, e, a)
			}
		}
	}
}

func TestLongNumbers(t *testing.T) {
	for _, base := range []int{2, 3, 10, 16, 36} {
		for _, a := range []api.Nat{drawn(700, 3), drawn(1000, 4), ones(1024), append(make(api.Nat, 999), 1)} {
			want := of(a).Text(base)
			if text, e := In(a, base); text != want || e != api.OK {
				t.Fatalf("In of %d limbs, %d: another text than math/big has", len(a), base)
			}
			if b, e := From(want, base); !slices.Equal(b, a) || e != api.OK {
				t.Fatalf("From of %d digits, %d: another number than math/big has", len(want), base)
			}
		}
	}
}

// 6.3 (back).

func TestWhatWasPrintedIsRead(t *testing.T) {
	for _, base := range bases() {
		for _, a := range samples(20, base) {
			text, _ := In(a, base)
			if b, e := From(text, base); !slices.Equal(b, a) || e != api.OK {
				t.Fatalf("From(In(%v, %d)): %v, %v", a, base, b, e)
			}
		}
	}
	for _, a := range samples(20, 10) {
		if b, e := Parse(Print(a)); !slices.Equal(b, a) || e != api.OK {
			t.Fatalf("Parse(Print(%v)): %v, %v", a, b, e)
		}
	}
}

// Texts of each length, in which digits of all kinds stand, with noughts ahead and without.
func TestWhatIsReadIsPrintedAgain(t *testing.T) {
	for _, base := range bases() {
		for length := range 150 {
			var text []byte
			for i := range length {
				text = append(text, "0123456789abcdefghijklmnopqrstuvwxyz"[(length*length+i*i*7+i/5)%base])
			}
			want := strings.TrimLeft(string(text), "0")
			if want == "" {
				text, want = append(text, '0'), "0"
			}
			for _, noughts := range []int{0, 1, 8, 9, 10, 31, 32, 70} {
				a, e := From(strings.Repeat("0", noughts)+string(text), base)
				if e != api.OK {
					t.Fatalf("From(%q, %d): %v", text, base, e)
				}
				if again, _ := In(a, base); again != want {
					t.Fatalf("In(From(%q, %d)): %q, want %q", text, base, again, want)
				}
			}
		}
	}
}

// P1, P2, and the rules.

// told are the answers of all calls at the same number, base and text.
type told struct {
	texts   [2]string
	numbers [2]api.Nat
	count   int
	errors  [3]api.Errno
}

func answers(a api.Nat, base int, s string) told {
	l := told{count: Count(a)}
	l.texts[0] = Print(a)
	l.texts[1], l.errors[0] = In(a, base)
	l.numbers[0], l.errors[1] = Parse(s)
	l.numbers[1], l.errors[2] = From(s, base)
	return l
}

func same(a, b told) bool {
	return a.texts == b.texts && a.count == b.count && a.errors == b.errors && slices.EqualFunc(a.numbers[:], b.numbers[:], slices.Equal)
}

// Every call ends, and none panics, at lists of limbs that are no numbers as well; asked again, it answers the same.
func TestEveryCallAnswers(t *testing.T) {
	texts := append([]string{"0", "1", "2", "9", "a", "z", "10", "zz", strings.Repeat("12", 50), strings.Repeat("q", 99)}, noDigits...)
	for _, base := range append(bases(), noBases...) {
		for i, a := range slices.Concat(edges, wrong) {
			s := texts[i%len(texts)]
			if !same(answers(a, base, s), answers(a, base, s)) {
				t.Fatalf("at %v, %d, %q: twice asked, two answers", a, base, s)
			}
		}
		for i, s := range texts {
			a := edges[i%len(edges)]
			if !same(answers(a, base, s), answers(a, base, s)) {
				t.Fatalf("at %v, %d, %q: twice asked, two answers", a, base, s)
			}
		}
	}
}

// What is handed in stays as it is, and so does what lies behind it.
func TestNumbersAreNotChanged(t *testing.T) {
	for _, base := range bases() {
		for _, a := range append(samples(4, base), wrong...) {
			room := append(make(api.Nat, 0, len(a)+8), a...)
			Print(room)
			Count(room)
			In(room, base)
			if !slices.Equal(room, a) {
				t.Fatalf("%v is changed to %v", a, room)
			}
			if slices.ContainsFunc(room[len(a):cap(room)], func(x uint64) bool { return x != 0 }) {
				t.Fatalf("at %v, %d: something is laid behind what is handed in", a, base)
			}
		}
	}
}

// Each number that is handed out is memory of its own: what becomes of it is seen by no later call.
func TestMemoryIsNotShared(t *testing.T) {
	for _, base := range bases() {
		for _, a := range samples(4, base) {
			text := of(a).Text(base)
			first, _ := From(text, base)
			second, _ := From(text, base)
			for i := range first[:cap(first)] {
				first[:cap(first)][i] = 77
			}
			third, _ := From(text, base)
			if !slices.Equal(second, a) || !slices.Equal(third, a) {
				t.Fatalf("From(%q, %d): %v, and then %v", text, base, second, third)
			}
		}
	}
}

func TestRefusedCallsChangeNothing(t *testing.T) {
	for _, a := range samples(4, 10) {
		s := of(a).String()
		before := answers(a, 16, s)
		_, in := In(a, 37)
		_, from := From(s, 1)
		_, none := Parse("")
		_, text := Parse(s + "a")
		_, digit := From(s+"z", 35)
		if got := [5]api.Errno{in, from, none, text, digit}; got != [5]api.Errno{api.ErrArg, api.ErrArg, api.ErrText, api.ErrText, api.ErrText} {
			t.Fatalf("not refused: %v", got)
		}
		if !same(before, answers(a, 16, s)) {
			t.Fatalf("at %v: other answers behind a refused call", a)
		}
	}
}
