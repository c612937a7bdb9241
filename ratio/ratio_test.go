package ratio

import (
	"encoding/binary"
	"math"
	"math/big"
	"regexp"
	"slices"
	"strings"
	"testing"

	"trivium/api"
)

const top = 1<<32 - 1 // the greatest limb

// edges are fractions that may be, at the ends of limbs and of what is taken out of a lower part at once.
var edges = []api.Rat{
	{Den: api.Nat{1}}, {Num: api.Int{Abs: api.Nat{}}, Den: api.Nat{1}},
	frac(1, 1), frac(-1, 1), frac(10, 1), frac(-100, 1), frac(1, 2), frac(-1, 2), frac(1, 5), frac(1, 10), frac(-3, 40), frac(1, 100), frac(1, 3), frac(-2, 3), frac(5, 6), frac(7, 15), frac(1, 1024), frac(1, 3125),
	frac(top, 1), frac(1, top), frac(-1, 1<<32), frac(1<<32, 1), frac(top, 1<<32), frac(1<<32, -top), frac(1<<32+1, 1<<31), frac(-1<<62, top), frac(math.MaxInt, 1<<62), frac(math.MinInt, 3), frac(1, math.MinInt), frac(math.MaxInt, 1e18), frac(-1, 1e18),
	over(false, ones(3), api.Nat{0, 0, 0, 1}), over(true, api.Nat{0, 0, 0, 1}, ones(3)), over(true, api.Nat{1}, api.Nat{0, 0, 0, 1}), over(false, ones(5), api.Nat{1}), over(false, api.Nat{1}, ones(6)),
}

// wrong are fractions that may not be.
var wrong = []api.Rat{
	{},
	{Den: api.Nat{}},
	{Den: api.Nat{0}},
	{Den: make(api.Nat, 5)},
	{Den: api.Nat{2}},
	{Den: api.Nat{0, 1}},
	{Den: api.Nat{1, 0}},
	{Den: api.Nat{1 << 32}},
	{Den: api.Nat{1<<32 + 1}},
	{Num: api.Int{Neg: true}, Den: api.Nat{1}},
	{Num: api.Int{Neg: true}},
	{Num: api.Int{Neg: true, Abs: api.Nat{}}, Den: api.Nat{1}},
	{Num: api.Int{Abs: api.Nat{0}}, Den: api.Nat{1}},
	{Num: api.Int{Neg: true, Abs: api.Nat{0}}, Den: api.Nat{2}},
	{Num: api.Int{Abs: make(api.Nat, 4)}, Den: make(api.Nat, 4)},
	{Num: api.Int{Abs: api.Nat{1}}},
	{Num: api.Int{Neg: true, Abs: api.Nat{7}}, Den: api.Nat{}},
	{Num: api.Int{Abs: api.Nat{1}}, Den: api.Nat{0}},
	{Num: api.Int{Abs: api.Nat{2}}, Den: api.Nat{2}},
	{Num: api.Int{Abs: api.Nat{4}}, Den: api.Nat{6}},
	{Num: api.Int{Neg: true, Abs: api.Nat{3}}, Den: api.Nat{6}},
	{Num: api.Int{Abs: api.Nat{0, 1}}, Den: api.Nat{2}},
	{Num: api.Int{Abs: api.Nat{3}}, Den: api.Nat{0, 3}},
	{Num: api.Int{Abs: api.Nat{5, 0}}, Den: api.Nat{1}},
	{Num: api.Int{Abs: api.Nat{5}}, Den: api.Nat{1, 0}},
	{Num: api.Int{Abs: api.Nat{5}}, Den: api.Nat{10, 0, 0}},
	{Num: api.Int{Abs: api.Nat{1 << 32}}, Den: api.Nat{1}},
	{Num: api.Int{Abs: api.Nat{1}}, Den: api.Nat{1 << 32}},
	{Num: api.Int{Abs: api.Nat{1}}, Den: api.Nat{1 << 32, 1}},
	{Num: api.Int{Abs: api.Nat{1}}, Den: api.Nat{1<<33 + 10}},
	{Num: api.Int{Neg: true, Abs: api.Nat{1<<64 - 1}}, Den: api.Nat{1<<64 - 1}},
	{Num: api.Int{Abs: api.Nat{1 << 63, 1 << 63}}, Den: api.Nat{1 << 33, 5}},
	{Num: api.Int{Neg: true, Abs: slices.Repeat(api.Nat{1<<64 - 1}, 7)}, Den: api.Nat{0, 1 << 40, 0}},
	{Num: api.Int{Abs: append(ones(9), 0, 0)}, Den: append(make(api.Nat, 40), 1<<40)},
}

// noTexts are texts that are no fraction's.
var noTexts = []string{
	"", "%", "%%", "5%%", "%5", "5%5", "%5%", "/", "//", "1/", "/2", "1//2", "1/%", "/2%", "/%", "1%/2", "1/2%%", "1/2/3", "1/2/", "/1/2",
	".", "..", "1.", ".5", "1..5", "1.%", ".5%", ".%", "1%.5", "1.2.3", "1.2.", ".1.2", "1.5/2", "1/2.5", "1./2", "1/2.", "1/.5", ".5/1", "./", "/.",
	"-1", "+1", "--1", "-", "+", "-0", "1-", "1/-2", "1/+2", "-1/2", "1.-5", "1.+5", "-1.5", "-50%", "1-2",
	" 1", "1 ", " ", "1 /2", "1/ 2", "1 .5", "1. 5", "50 %", "1\n", "\t1", "1\x00", "\x00", "1/2 ", "1%\n",
	"a", "1a", "a1", "1/a", "a/1", "1.a", "a.1", "f", "0x10", "1e5", "1E5", "1.5e1", "1_000", "1,5", "1:2", "inf", "NaN", "½", "½%", "1/½", "١", "１", "²", "1.\u0665", "٪", "1٪", "1∕2", "\xff", "1\xff", "1/\xc3", "1.5\x80", "𝟙",
	"x/0", "0/0x", "1/0%%", "1/0/1", "1.0/0", "1/0.0", "-1/0", " 1/0", "1/0 ",
	strings.Repeat("0", 5000) + "/", strings.Repeat("9", 5000) + "x", "0." + strings.Repeat("3", 5000) + ".", strings.Repeat("%", 5000), strings.Repeat("1/", 5000) + "1",
}

// zeroTexts are texts of parts of 0.
var zeroTexts = []string{
	"1/0", "1/0%", "0/0", "0/0%", "1/00", "007/000", "00/00%", "4294967296/0", "1/" + strings.Repeat("0", 5000), strings.Repeat("9", 5000) + "/0%",
}

// grammar is what a fraction's text is.
var grammar = regexp.MustCompile(`^[0-9]+([/.][0-9]+)?%?$`)

// frac is n over d, which is not 0, by math/big.
func frac(n, d int) api.Rat { return from(big.NewRat(int64(n), int64(d))) }

// over is num over den, as they are.
func over(neg bool, num, den api.Nat) api.Rat {
	return api.Rat{Num: api.Int{Neg: neg, Abs: num}, Den: den}
}

// ones is the number of n limbs, all of them as great as can be.
func ones(n int) api.Nat { return slices.Repeat(api.Nat{top}, n) }

// drawn is a number of n limbs, for each seed above 0 another one, always the same; many of its limbs are at the ends.
func drawn(n int, seed uint64) api.Nat {
	a, x := make(api.Nat, n), seed*88172645463325252
	for i := range a {
		x ^= x << 13
		x ^= x >> 7
		x ^= x << 17
		switch x % 6 {
		case 0: // left as it is
		case 1:
			a[i] = top
		case 2:
			a[i] = 1 << 31
		default:
			a[i] = x >> 32
		}
	}
	a[n-1] = max(a[n-1], 1)
	return a
}

// raised is base to the power of n.
func raised(base, n int) *big.Int {
	return new(big.Int).Exp(big.NewInt(int64(base)), big.NewInt(int64(n)), nil)
}

// samples are fractions that may be: the edges, and of each length up to longest some that a number of digits tells, and some that none does.
func samples(longest int) []api.Rat {
	l := slices.Clone(edges)
	for n := 1; n <= longest; n++ {
		seed := uint64(n)
		a, b := abs(drawn(n, seed)), abs(drawn(n, seed+1000))
		twos, fives := raised(2, 17*n), raised(5, 9*n)
		l = append(l,
			from(new(big.Rat).SetFrac(a, b)),
			from(new(big.Rat).SetFrac(a, twos)),
			from(new(big.Rat).SetFrac(new(big.Int).Neg(b), fives)),
			from(new(big.Rat).SetFrac(new(big.Int).Neg(a), new(big.Int).Mul(twos, fives))),
			from(new(big.Rat).SetFrac(b, new(big.Int).Mul(twos, big.NewInt(int64(3*n))))))
	}
	return l
}

// abs is a as a number of math/big, so that nothing here reckons as the package does.
func abs(a api.Nat) *big.Int {
	var l []byte
	for _, x := range slices.Backward(a) {
		l = binary.BigEndian.AppendUint32(l, uint32(x))
	}
	return new(big.Int).SetBytes(l)
}

// limbs is n, without its sign, as a number of api.
func limbs(n *big.Int) api.Nat {
	var a api.Nat
	for n = new(big.Int).Abs(n); n.Sign() != 0; n.Rsh(n, 32) {
		a = append(a, new(big.Int).And(n, big.NewInt(top)).Uint64())
	}
	return a
}

// from is n as a fraction of api.
func from(n *big.Rat) api.Rat { return over(n.Sign() < 0, limbs(n.Num()), limbs(n.Denom())) }

// of is a, which may be, as a fraction of math/big.
func of(a api.Rat) *big.Rat {
	n := new(big.Rat).SetFrac(abs(a.Num.Abs), abs(a.Den))
	if a.Num.Neg {
		n.Neg(n)
	}
	return n
}

// equal tells whether both are the same, limb by limb.
func equal(a, b api.Rat) bool {
	return a.Num.Neg == b.Num.Neg && slices.Equal(a.Num.Abs, b.Num.Abs) && slices.Equal(a.Den, b.Den)
}

// is tells whether a is n, and may be: n has one such form alone.
func is(a api.Rat, n *big.Rat) bool { return equal(a, from(n)) }

// nothing tells whether a is the zero value.
func nothing(a api.Rat) bool { return !a.Num.Neg && a.Num.Abs == nil && a.Den == nil }

// read is what a text is by math/big, and which error is told of it.
func read(s string) (*big.Rat, api.Errno) {
	if !grammar.MatchString(s) {
		return nil, api.ErrText
	}
	text, ofHundred := strings.CutSuffix(s, "%")
	upper, lower, _ := strings.Cut(text, "/")
	upper, behind, _ := strings.Cut(upper, ".")
	num, _ := new(big.Int).SetString(upper+behind, 10)
	den := raised(10, len(behind))
	if lower != "" {
		den, _ = new(big.Int).SetString(lower, 10)
	}
	if den.Sign() == 0 {
		return nil, api.ErrZero
	}
	if ofHundred {
		den.Mul(den, big.NewInt(100))
	}
	return new(big.Rat).SetFrac(num, den), api.OK
}

// decimal is n's digits by math/big, and whether there are any: it tries one number of digits after the other.
func decimal(n *big.Rat) (string, bool) {
	shifted := big.NewInt(1)
	for digits := 0; digits <= n.Denom().BitLen(); digits++ {
		if new(big.Int).Rem(shifted, n.Denom()).Sign() == 0 {
			return n.FloatString(digits), true
		}
		shifted.Mul(shifted, big.NewInt(10))
	}
	return "", false
}

// 9.1: Parse, Print.

func TestParse(t *testing.T) {
	for s, want := range map[string]api.Rat{
		"0": frac(0, 1), "000": frac(0, 1), "0.0": frac(0, 1), "0%": frac(0, 1), "0/5": frac(0, 1), "00.00%": frac(0, 1), "0/7%": frac(0, 1),
		"1": frac(1, 1), "007": frac(7, 1), "10": frac(10, 1), "4294967295": frac(top, 1), "4294967296": frac(1<<32, 1),
		"1/8": frac(1, 8), "0.125": frac(1, 8), "12.5%": frac(1, 8), "00012.5000%": frac(1, 8), "0.12500": frac(1, 8),
		"3/9": frac(1, 3), "6/3": frac(2, 1), "010/020": frac(1, 2), "7/7": frac(1, 1), "5/1": frac(5, 1), "4294967296/8589934592": frac(1, 2),
		"1.0": frac(1, 1), "1.10": frac(11, 10), "10.01": frac(1001, 100), "0.10": frac(1, 10), "0.01": frac(1, 100), "0.000000001": frac(1, 1e9),
		"1%": frac(1, 100), "100%": frac(1, 1), "200%": frac(2, 1), "150%": frac(3, 2), "50%": frac(1, 2), "007%": frac(7, 100),
		"1/2%": frac(1, 200), "200/3%": frac(2, 3), "100/100%": frac(1, 100), "0.5%": frac(1, 200), "0.001%": frac(1, 100000),
		"340282366920938463463374607431768211456/3": over(false, api.Nat{0, 0, 0, 0, 1}, api.Nat{3}),
		"1/18446744073709551616":                    over(false, api.Nat{1}, api.Nat{0, 0, 1}),
	} {
		if a, e := Parse(s); !equal(a, want) || e != api.OK {
			t.Errorf("Parse(%q): %v, %v, want %v", s, a, e, want)
		}
	}
}

func TestParseOfNoTexts(t *testing.T) {
	for _, s := range noTexts {
		if a, e := Parse(s); !nothing(a) || e != api.ErrText {
			t.Errorf("Parse(%.40q): %v, %v", s, a, e)
		}
	}
	for _, s := range zeroTexts {
		if a, e := Parse(s); !nothing(a) || e != api.ErrZero {
			t.Errorf("Parse(%.40q): %v, %v", s, a, e)
		}
	}
}

// Every text of a few signs is what the grammar says.
func TestParseOfAllShortTexts(t *testing.T) {
	l := []string{""}
	for len(l[0]) < 6 {
		for _, s := range l {
			a, e := Parse(s)
			n, want := read(s)
			if e != want || e != api.OK && !nothing(a) || e == api.OK && !is(a, n) {
				t.Fatalf("Parse(%q): %v, %v, want %v, %v", s, a, e, n, want)
			}
		}
		var longer []string
		for _, s := range l {
			for _, sign := range "057/.%-" {
				longer = append(longer, s+string(sign))
			}
		}
		l = longer
	}
}

// Every byte stands for what it is, wherever it stands.
func TestParseOfAllBytes(t *testing.T) {
	for b := range 256 {
		for _, around := range []string{"|", "|1", "1|", "1|2", "1/|", "|/1", "1.|", "|.1", "1/2|", "1.5|", "1|%", "|1%", "12|34%"} {
			s := strings.ReplaceAll(around, "|", string([]byte{byte(b)}))
			a, e := Parse(s)
			n, want := read(s)
			if e != want || e != api.OK && !nothing(a) || e == api.OK && !is(a, n) {
				t.Errorf("Parse(%q): %v, %v, want %v, %v", s, a, e, n, want)
			}
		}
	}
}

func TestParseOfLongTexts(t *testing.T) {
	sevens, noughts := strings.Repeat("7", 3000), strings.Repeat("0", 3000)
	for _, s := range []string{
		sevens, noughts + "7", "7" + noughts, sevens + "%", "0." + sevens, "0." + noughts + "7", "0.7" + noughts, sevens + "." + sevens + "%", "7" + noughts + "." + noughts + "70%",
		sevens + "/7", "7/" + sevens, sevens + "1/" + sevens + "%", noughts + "14/" + noughts + "21",
		"0." + strings.Repeat("0", 12000) + "5", strings.Repeat("0", 12000) + "." + strings.Repeat("0", 12000), // mul's powers end at 10000
	} {
		a, e := Parse(s)
		if n, want := read(s); e != want || !is(a, n) {
			t.Errorf("Parse(%.40q) of %d: %v", s, len(s), e)
		}
	}
}

func TestPrint(t *testing.T) {
	for _, c := range []struct {
		a    api.Rat
		want string
	}{
		{frac(0, 1), "0"}, {over(false, api.Nat{}, api.Nat{1}), "0"}, {frac(1, 1), "1"}, {frac(-1, 1), "-1"}, {frac(12, 4), "3"}, {frac(-12, 4), "-3"}, {frac(10, 1), "10"},
		{frac(1, 8), "1/8"}, {frac(-3, 40), "-3/40"}, {frac(4, 6), "2/3"}, {frac(10, 3), "10/3"}, {frac(1, 10), "1/10"}, {frac(11, 10), "11/10"}, {frac(1, 11), "1/11"},
		{frac(1<<32, 3), "4294967296/3"}, {frac(-1, 1<<32), "-1/4294967296"}, {over(true, api.Nat{0, 0, 1}, api.Nat{1, 0, 1}), "-18446744073709551616/18446744073709551617"},
	} {
		if s := Print(c.a); s != c.want {
			t.Errorf("Print(%v): %q, want %q", c.a, s, c.want)
		}
	}
	for _, a := range samples(40) {
		if s := Print(a); s != of(a).RatString() {
			t.Errorf("Print(%v): %q", a, s)
		}
	}
}

// 9.2: Decimal, Percent, Digits.

func TestDecimalAndPercent(t *testing.T) {
	for _, c := range []struct {
		a                api.Rat
		decimal, percent string
		told             bool
	}{
		{frac(0, 1), "0", "0%", true},
		{over(false, api.Nat{}, api.Nat{1}), "0", "0%", true},
		{frac(1, 1), "1", "100%", true},
		{frac(-1, 1), "-1", "-100%", true},
		{frac(10, 1), "10", "1000%", true},
		{frac(1, 2), "0.5", "50%", true},
		{frac(-1, 2), "-0.5", "-50%", true},
		{frac(1, 4), "0.25", "25%", true},
		{frac(1, 8), "0.125", "12.5%", true},
		{frac(3, 40), "0.075", "7.5%", true},
		{frac(-3, 40), "-0.075", "-7.5%", true},
		{frac(1, 5), "0.2", "20%", true},
		{frac(1, 10), "0.1", "10%", true},
		{frac(1, 100), "0.01", "1%", true},
		{frac(1, 1000), "0.001", "0.1%", true},
		{frac(1, 10000), "0.0001", "0.01%", true},
		{frac(-1, 25), "-0.04", "-4%", true},
		{frac(1, 125), "0.008", "0.8%", true},
		{frac(5, 2), "2.5", "250%", true},
		{frac(1001, 100), "10.01", "1001%", true},
		{frac(20, 8), "2.5", "250%", true},
		{frac(1, 1<<31), "0.0000000004656612873077392578125", "0.00000004656612873077392578125%", true},
		{frac(1, 1220703125), "0.0000000008192", "0.00000008192%", true},
		{frac(1<<32, 5), "858993459.2", "85899345920%", true},
		{frac(1, 3), "", "", false},
		{frac(-1, 3), "", "", false},
		{frac(2, 7), "", "", false},
		{frac(1, 6), "", "", false},
		{frac(1, 15), "", "", false},
		{frac(1, 300), "", "", false},
		{frac(1, 9), "", "", false},
		{frac(1, 1<<32+1), "", "", false},
		{frac(1, 3<<32), "", "", false},
	} {
		if s, told := Decimal(c.a); s != c.decimal || told != c.told {
			t.Errorf("Decimal(%v): %q, %v, want %q, %v", c.a, s, told, c.decimal, c.told)
		}
		if s, told := Percent(c.a); s != c.percent || told != c.told {
			t.Errorf("Percent(%v): %q, %v, want %q, %v", c.a, s, told, c.percent, c.told)
		}
	}
}

// checkDecimal holds Decimal and Percent of n against math/big.
func checkDecimal(t *testing.T, n *big.Rat) {
	t.Helper()
	a := from(n)
	want, told := decimal(n)
	if s, ok := Decimal(a); s != want || ok != told {
		t.Fatalf("Decimal(%v): %.100q, %v, want %.100q, %v", n, s, ok, want, told)
	}
	want, told = decimal(new(big.Rat).Mul(n, big.NewRat(100, 1)))
	if told {
		want += "%"
	}
	if s, ok := Percent(a); s != want || ok != told {
		t.Fatalf("Percent(%v): %.100q, %v, want %.100q, %v", n, s, ok, want, told)
	}
}

func TestDecimalAndPercentOfMany(t *testing.T) {
	for n := int64(-12); n <= 130; n++ {
		for d := int64(1); d <= 130; d++ {
			checkDecimal(t, big.NewRat(n, d))
		}
	}
	for _, a := range samples(20) {
		checkDecimal(t, of(a))
	}
}

// However many twos and fives the lower part has, about what is taken out at once too, all of them are found, and nothing else is.
func TestDecimalOfTwosAndFives(t *testing.T) {
	for _, twos := range []int{0, 1, 2, 30, 31, 32, 33, 61, 62, 63, 64, 93, 124, 200} {
		for _, fives := range []int{0, 1, 2, 12, 13, 14, 25, 26, 27, 39, 52, 150} {
			for _, num := range []int64{1, -1, 3, 7919, math.MaxInt} {
				for _, other := range []int64{1, 3, 1<<31 - 1} {
					den := new(big.Int).Mul(raised(2, twos), raised(5, fives))
					checkDecimal(t, new(big.Rat).SetFrac(big.NewInt(num), den.Mul(den, big.NewInt(other))))
				}
			}
		}
	}
}

// Neither the end of mul's powers (10000) nor that of nat's shifts (100000) is one of digits.
func TestDecimalOfVeryManyDigits(t *testing.T) {
	for _, c := range []struct{ base, n, digits int }{{2, 10001, 10001}, {5, 10001, 10001}, {10, 10001, 10001}, {20, 10000, 20000}, {2, 100001, 100001}} {
		den := raised(c.base, c.n)
		num := new(big.Int).Add(den, big.NewInt(1))
		// With the point left out it is a whole number: the fraction times 10 to the power of its digits.
		want := new(big.Int).Exp(big.NewInt(10), big.NewInt(int64(c.digits)), nil)
		want.Mul(want, num).Quo(want, den)
		text := want.String()
		s, told := Decimal(over(true, limbs(num), limbs(den)))
		if !told || s != "-"+text[:1]+"."+text[1:] {
			t.Errorf("Decimal of 1 and 1 over %d to the %d: %d bytes, %v", c.base, c.n, len(s), told)
		}
	}
	whole := api.Rat{Num: api.Int{Abs: ones(700)}, Den: api.Nat{1}}
	if s, told := Decimal(whole); !told || s != abs(ones(700)).String() {
		t.Errorf("Decimal of a long whole number: %d bytes, %v", len(s), told)
	}
}

// One digit fewer does not tell the fraction.
func TestDecimalHasAsFewDigitsAsCanBe(t *testing.T) {
	for _, a := range samples(20) {
		s, told := Decimal(a)
		if !told {
			continue
		}
		ahead, behind, point := strings.Cut(s, ".")
		if point && (behind == "" || strings.HasSuffix(behind, "0")) || len(strings.TrimLeft(ahead, "-")) > 1 && strings.HasPrefix(strings.TrimLeft(ahead, "-"), "0") {
			t.Errorf("Decimal(%v): %q", a, s)
		}
		if n, ok := new(big.Rat).SetString(s); !ok || n.Cmp(of(a)) != 0 {
			t.Errorf("Decimal(%v): %q is another one", a, s)
		}
	}
}

func TestDigits(t *testing.T) {
	for _, c := range []struct {
		a    api.Rat
		want int
	}{
		{frac(0, 1), 1}, {frac(1, 1), 1}, {frac(12345, 1), 1}, {frac(1, 2), 1}, {frac(-1, 9), 1}, {frac(1, 10), 2}, {frac(-3, 40), 2}, {frac(10, 100), 2}, {frac(1, 99), 2}, {frac(1, 100), 3},
		{frac(1, 999999999), 9}, {frac(1, 1000000000), 10}, {frac(1, 1<<32), 10}, {frac(-1, 1e18), 19},
	} {
		if n := Digits(c.a); n != c.want {
			t.Errorf("Digits(%v): %d, want %d", c.a, n, c.want)
		}
	}
	for _, a := range samples(40) {
		if n := Digits(a); n != len(abs(a.Den).String()) {
			t.Errorf("Digits(%v): %d", a, n)
		}
	}
}

// 9.3 (back).

func TestWhatWasPrintedIsRead(t *testing.T) {
	for _, a := range samples(30) {
		a.Num.Neg = false
		l := []string{Print(a)}
		if s, told := Decimal(a); told {
			p, _ := Percent(a)
			l = append(l, s, p)
		}
		for _, s := range l {
			if b, e := Parse(s); !equal(a, b) || e != api.OK {
				t.Errorf("Parse(%q): %v, %v, want %v", s, b, e, a)
			}
		}
	}
}

// Of fractions below 0 there is no text that is read.
func TestWhatIsBelowZeroIsNotRead(t *testing.T) {
	for _, a := range []api.Rat{frac(-1, 1), frac(-1, 8), frac(-5, 2), frac(-70, 1)} {
		decimal, _ := Decimal(a)
		percent, _ := Percent(a)
		for _, s := range []string{Print(a), decimal, percent} {
			if b, e := Parse(s); !nothing(b) || e != api.ErrText {
				t.Errorf("Parse(%q): %v, %v", s, b, e)
			}
		}
	}
}

// What was read, printed and read again, is the same.
func TestWhatWasReadIsPrinted(t *testing.T) {
	for _, s := range []string{"12.5%", "0.125", "1/8", "007", "0/9", "200/300%", "0.333", "99.999%", "1/3%", "00.10"} {
		a, _ := Parse(s)
		b, e := Parse(Print(a))
		if !equal(a, b) || e != api.OK {
			t.Errorf("%q printed and read: %v, %v, want %v", s, b, e, a)
		}
	}
}

// P1, P2, and the rules.

// told are the answers of all calls at the same fraction.
type told struct {
	print, decimal, percent string
	isDecimal, isPercent    bool
	digits                  int
}

func answers(a api.Rat) told {
	l := told{print: Print(a), digits: Digits(a)}
	l.decimal, l.isDecimal = Decimal(a)
	l.percent, l.isPercent = Percent(a)
	return l
}

// Every call ends, and none panics, at fractions that may not be as well; beside a false there is no text.
func TestEveryCallAnswers(t *testing.T) {
	for _, a := range append(samples(6), wrong...) {
		first := answers(a)
		if first != answers(a) {
			t.Fatalf("at %v: twice asked, two answers", a)
		}
		if !first.isDecimal && first.decimal != "" || !first.isPercent && first.percent != "" {
			t.Fatalf("at %v: %q or %q beside false", a, first.decimal, first.percent)
		}
	}
}

// roomy is a with room behind, in which nothing may be laid.
func roomy(a api.Nat) api.Nat { return append(make(api.Nat, 0, len(a)+8), a...) }

// clean tells whether nothing lies in the room behind a.
func clean(a api.Nat) bool {
	return !slices.ContainsFunc(a[len(a):cap(a)], func(x uint64) bool { return x != 0 })
}

// What is handed in stays as it is.
func TestWhatIsHandedInIsNotChanged(t *testing.T) {
	for _, a := range append(samples(6), wrong...) {
		b := over(a.Num.Neg, roomy(a.Num.Abs), roomy(a.Den))
		answers(b)
		if !equal(a, b) || !clean(b.Num.Abs) || !clean(b.Den) {
			t.Fatalf("%v is changed to %v", a, b)
		}
	}
}

// What is handed out is memory of its own: both lists of an answer, and those of two answers.
func TestMemoryIsNotShared(t *testing.T) {
	for _, s := range []string{"1", "1/1", "7/7", "0", "0/3", "12.5%", "1/8", "123456789012345678901234567890/7", "7/123456789012345678901234567890", "123456789.123456789%"} {
		a, _ := Parse(s)
		b, _ := Parse(s)
		all := []api.Nat{a.Num.Abs, a.Den, b.Num.Abs, b.Den}
		for i, list := range all {
			kept := make([]api.Nat, len(all))
			for j, other := range all {
				kept[j] = slices.Clone(other)
			}
			for j := range list[:cap(list)] {
				list[:cap(list)][j] = 77
			}
			for j, other := range all {
				if j != i && !slices.Equal(other, kept[j]) {
					t.Fatalf("Parse(%q): list %d is list %d", s, i, j)
				}
			}
		}
	}
}

func TestRefusedCallsChangeNothing(t *testing.T) {
	a := frac(-3, 40)
	before := answers(a)
	want, _ := Parse("12.5%")
	for _, s := range append(slices.Clone(noTexts), zeroTexts...) {
		if _, e := Parse(s); e == api.OK {
			t.Fatalf("Parse(%.40q) is not refused", s)
		}
		if b, e := Parse("12.5%"); !equal(b, want) || e != api.OK {
			t.Fatalf("after %.40q: Parse answers %v, %v", s, b, e)
		}
	}
	if _, told := Decimal(frac(1, 3)); told || answers(a) != before {
		t.Errorf("after what is refused: %v, want %v", answers(a), before)
	}
}
