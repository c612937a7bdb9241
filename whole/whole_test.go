package whole

import (
	"encoding/binary"
	"math"
	"math/big"
	"slices"
	"strings"
	"testing"

	"trivium/api"
)

const top = 1<<32 - 1 // the greatest limb

// ints are those at the ends of what an int holds, and about 0.
var ints = []int{
	0, 1, 2, 3, 7, 9, 10, 1<<31 - 1, 1 << 31, top, 1 << 32, 1<<32 + 1, 1 << 62, math.MaxInt - 1, math.MaxInt,
	-1, -2, -3, -7, -9, -10, -1<<31 + 1, -1 << 31, -top, -1 << 32, -1<<32 - 1, -1 << 62, math.MinInt + 1, math.MinInt,
}

// edges are the parts without a sign of numbers that may be, at the ends of limbs.
var edges = []api.Nat{
	nil, {}, {1}, {2}, {3}, {7}, {1 << 31}, {top - 1}, {top}, {0, 1}, {1, 1}, {top, 1}, {0, 1 << 31}, {0, top}, {top, top},
	{0, 0, 1}, {5, 0, 1}, {top, 0, 1 << 31}, ones(3), {0, 0, 0, 1}, ones(5), {0, 0, 0, 0, 0, 1},
}

// wrong are whole numbers that may not be.
var wrong = []api.Int{
	{Neg: true}, {Neg: true, Abs: api.Nat{}}, {Abs: api.Nat{0}}, {Neg: true, Abs: api.Nat{0}}, {Abs: make(api.Nat, 5)}, {Neg: true, Abs: make(api.Nat, 5)},
	{Abs: api.Nat{7, 0}}, {Neg: true, Abs: api.Nat{7, 0, 0}}, {Abs: api.Nat{0, 1, 0}}, {Abs: api.Nat{1 << 32}}, {Neg: true, Abs: api.Nat{1 << 32}},
	{Abs: api.Nat{1<<64 - 1}}, {Neg: true, Abs: api.Nat{1 << 63, 1 << 63, 1 << 63}}, {Abs: api.Nat{5, 1 << 40}}, {Neg: true, Abs: api.Nat{0, 1 << 33, 0}},
	{Abs: slices.Repeat(api.Nat{1<<64 - 1}, 7)}, {Neg: true, Abs: append(ones(9), 0, 0)}, {Neg: true, Abs: append(make(api.Nat, 40), 1<<40)},
}

// noTexts are texts of no whole number.
var noTexts = []string{
	"", "-", "--", "--1", "---1", "-+1", "+", "+1", "+-1", "1-", "-1-", "1-1", "- 1", " -1", "-1 ", " 1", "1 ", "-a", "a", "-1a", "0x1", "-0x1", "1e3", "1.0", "-1.0", "1/2", "-1/2", "1%", "1_0", "-1_0",
	"\x00", "-\x00", "\xff", "-\xff", "\u22121", "\u20131", "\ufe631", "\uff0d1", "\u00ad1", "-\u0661", "-\uff11", "-1\n", "\n-1", "(1)",
	strings.Repeat("-", 300), strings.Repeat("1", 300) + "-", "-" + strings.Repeat("1", 150) + "-" + strings.Repeat("1", 150), "-" + strings.Repeat("0", 300) + "z",
}

// ones is the number of n limbs, all of them as great as can be.
func ones(n int) api.Nat { return slices.Repeat(api.Nat{top}, n) }

// drawn is a number of n limbs, for each seed above 0 another one, always the same; many of its limbs are at the ends.
func drawn(n int, seed uint64) api.Nat {
	a, x := make(api.Nat, n), seed*88172645463325252
	for i := range a {
		x ^= x << 13
		x ^= x >> 7
		x ^= x << 17
		switch x % 6 {
		case 0: // left as it is
		case 1:
			a[i] = top
		case 2:
			a[i] = 1 << 31
		default:
			a[i] = x >> 32
		}
	}
	a[n-1] = max(a[n-1], 1)
	return a
}

// samples are numbers that may be, of both signs: the edges, and two of each length up to longest.
func samples(longest int) []api.Int {
	abs := slices.Clone(edges)
	for n := 1; n <= longest; n++ {
		abs = append(abs, drawn(n, uint64(n)), drawn(n, uint64(n)+1000))
	}
	var l []api.Int
	for _, a := range abs {
		l = append(l, api.Int{Abs: a})
		if len(a) > 0 {
			l = append(l, api.Int{Neg: true, Abs: a})
		}
	}
	return l
}

// of is a as a number of math/big, so that nothing here reckons as the package does.
func of(a api.Int) *big.Int {
	var l []byte
	for _, x := range slices.Backward(a.Abs) {
		l = binary.BigEndian.AppendUint32(l, uint32(x))
	}
	n := new(big.Int).SetBytes(l)
	if a.Neg {
		n.Neg(n)
	}
	return n
}

// is tells whether a is the number n, and may be.
func is(a api.Int, n *big.Int) bool {
	for _, x := range a.Abs {
		if x > top {
			return false
		}
	}
	if len(a.Abs) == 0 {
		return !a.Neg && n.Sign() == 0
	}
	return a.Abs[len(a.Abs)-1] != 0 && of(a).Cmp(n) == 0
}

// isInt tells whether a is n, and may be.
func isInt(a api.Int, n int) bool { return is(a, big.NewInt(int64(n))) }

// nothing tells whether a is the zero value.
func nothing(a api.Int) bool { return !a.Neg && a.Abs == nil }

// equal tells whether both are the same, limb by limb.
func equal(a, b api.Int) bool { return a.Neg == b.Neg && slices.Equal(a.Abs, b.Abs) }

// 7.1: Of, Made, Neg, Sign, Cmp, Add, Sub, Mul, Sum.

func TestOf(t *testing.T) {
	for _, c := range []struct {
		n    int
		want api.Int
	}{
		{0, api.Int{}},
		{1, api.Int{Abs: api.Nat{1}}},
		{-1, api.Int{Neg: true, Abs: api.Nat{1}}},
		{top, api.Int{Abs: api.Nat{top}}},
		{-top, api.Int{Neg: true, Abs: api.Nat{top}}},
		{1 << 32, api.Int{Abs: api.Nat{0, 1}}},
		{-1 << 32, api.Int{Neg: true, Abs: api.Nat{0, 1}}},
		{math.MaxInt, api.Int{Abs: api.Nat{top, 1<<31 - 1}}},
		{math.MinInt + 1, api.Int{Neg: true, Abs: api.Nat{top, 1<<31 - 1}}},
		{math.MinInt, api.Int{Neg: true, Abs: api.Nat{0, 1 << 31}}},
	} {
		if a := Of(c.n); !equal(a, c.want) {
			t.Errorf("Of(%d): %v, want %v", c.n, a, c.want)
		}
	}
	for _, n := range ints {
		if a := Of(n); !isInt(a, n) {
			t.Errorf("Of(%d): %v", n, a)
		}
	}
}

func TestMade(t *testing.T) {
	for _, c := range []struct {
		neg  bool
		a    api.Nat
		want api.Int
	}{
		{false, nil, api.Int{}},
		{true, nil, api.Int{}},
		{false, api.Nat{}, api.Int{}},
		{true, api.Nat{}, api.Int{}},
		{false, api.Nat{5}, api.Int{Abs: api.Nat{5}}},
		{true, api.Nat{5}, api.Int{Neg: true, Abs: api.Nat{5}}},
		{false, api.Nat{0, 0, 1}, api.Int{Abs: api.Nat{0, 0, 1}}},
		{true, api.Nat{0, 0, 1}, api.Int{Neg: true, Abs: api.Nat{0, 0, 1}}},
	} {
		if a := Made(c.neg, c.a); !equal(a, c.want) {
			t.Errorf("Made(%v, %v): %v, want %v", c.neg, c.a, a, c.want)
		}
	}
}

func TestMadeNegAndSignOfMany(t *testing.T) {
	for _, a := range samples(20) {
		n := of(a)
		if b := Made(a.Neg, a.Abs); !is(b, n) {
			t.Fatalf("Made(%v, %v): %v", a.Neg, a.Abs, b)
		}
		if b := Made(true, a.Abs); !is(b, new(big.Int).Neg(new(big.Int).Abs(n))) {
			t.Fatalf("Made(true, %v): %v", a.Abs, b)
		}
		if b := Neg(a); !is(b, new(big.Int).Neg(n)) || !equal(Neg(b), a) {
			t.Fatalf("Neg(%v): %v", a, b)
		}
		if s := Sign(a); s != n.Sign() {
			t.Fatalf("Sign(%v): %d", a, s)
		}
	}
}

func TestSign(t *testing.T) {
	for _, n := range ints {
		want := big.NewInt(int64(n)).Sign()
		if s := Sign(Of(n)); s != want {
			t.Errorf("Sign(%d): %d", n, s)
		}
		if s := Sign(Neg(Of(n))); s != -want {
			t.Errorf("Sign(Neg(%d)): %d", n, s)
		}
	}
}

func TestCmp(t *testing.T) {
	for _, c := range []struct{ a, b, want int }{
		{0, 0, 0}, {0, 1, -1}, {0, -1, 1}, {1, 0, 1}, {-1, 0, -1},
		{5, 5, 0}, {-5, -5, 0}, {5, -5, 1}, {-5, 5, -1},
		{2, 3, -1}, {-3, -2, -1}, {-2, -3, 1}, {3, 2, 1}, {-9, 2, -1}, {9, -2, 1}, {-2, 9, -1}, {2, -9, 1},
		{-1 << 32, -top, -1}, {1 << 32, top, 1},
	} {
		if order := Cmp(Of(c.a), Of(c.b)); order != c.want {
			t.Errorf("Cmp(%d, %d): %d, want %d", c.a, c.b, order, c.want)
		}
	}
	if order := Cmp(api.Int{}, api.Int{Abs: api.Nat{}}); order != 0 {
		t.Errorf("Cmp of two noughts: %d", order)
	}
}

func TestAddSubAndMul(t *testing.T) {
	for _, c := range []struct{ a, b, sum, rest, product int }{
		{0, 0, 0, 0, 0},
		{0, 5, 5, -5, 0},
		{-5, 0, -5, -5, 0},
		{2, 3, 5, -1, 6},
		{-2, -3, -5, 1, 6},
		{-2, 3, 1, -5, -6},
		{2, -3, -1, 5, -6},
		{5, 5, 10, 0, 25},
		{5, -5, 0, 10, -25},
		{-5, -5, -10, 0, 25},
		{top, 1, 1 << 32, top - 1, top},
		{-top, -1, -1 << 32, -top + 1, top},
		{1 << 32, -1, top, 1<<32 + 1, -1 << 32},
		{-1 << 32, 1, -top, -1<<32 - 1, -1 << 32},
	} {
		a, b := Of(c.a), Of(c.b)
		if sum := Add(a, b); !isInt(sum, c.sum) {
			t.Errorf("Add(%d, %d): %v, want %d", c.a, c.b, sum, c.sum)
		}
		if rest := Sub(a, b); !isInt(rest, c.rest) {
			t.Errorf("Sub(%d, %d): %v, want %d", c.a, c.b, rest, c.rest)
		}
		if product := Mul(a, b); !isInt(product, c.product) {
			t.Errorf("Mul(%d, %d): %v, want %d", c.a, c.b, product, c.product)
		}
	}
}

func TestCmpAddSubAndMulOfMany(t *testing.T) {
	l := samples(20)
	for _, a := range l {
		for _, b := range l {
			m, n := of(a), of(b)
			if order := Cmp(a, b); order != m.Cmp(n) {
				t.Fatalf("Cmp(%v, %v): %d", a, b, order)
			}
			if sum := Add(a, b); !is(sum, new(big.Int).Add(m, n)) {
				t.Fatalf("Add(%v, %v): %v", a, b, sum)
			}
			if rest := Sub(a, b); !is(rest, new(big.Int).Sub(m, n)) {
				t.Fatalf("Sub(%v, %v): %v", a, b, rest)
			}
			if product := Mul(a, b); !is(product, new(big.Int).Mul(m, n)) {
				t.Fatalf("Mul(%v, %v): %v", a, b, product)
			}
		}
	}
}

func TestSum(t *testing.T) {
	for _, c := range []struct {
		l    []int
		want int
	}{
		{nil, 0},
		{[]int{}, 0},
		{[]int{0}, 0},
		{[]int{7}, 7},
		{[]int{-7}, -7},
		{[]int{0, 0, 0}, 0},
		{[]int{5, -9, 1}, -3},
		{[]int{-5, 9, -1}, 3},
		{[]int{5, -5}, 0},
		{[]int{-1, -2, -3}, -6},
		{[]int{1, 2, -3}, 0},
		{[]int{top, 1, -1 << 32}, 0},
		{[]int{-top, -top, top, top, -1}, -1},
	} {
		var l []api.Int
		for _, n := range c.l {
			l = append(l, Of(n))
		}
		if sum := Sum(l...); !isInt(sum, c.want) {
			t.Errorf("Sum(%v): %v, want %d", c.l, sum, c.want)
		}
	}
}

// Of the first ones, however many, of lists in which both signs come in turn, or one behind the other.
func TestSumIsThatOfAll(t *testing.T) {
	l := samples(20)
	sorted := slices.SortedFunc(slices.Values(l), Cmp)
	for _, l := range [][]api.Int{l, sorted, slices.Concat(sorted[len(sorted)/2:], sorted)} {
		want := new(big.Int)
		for i := range l {
			if sum := Sum(l[:i]...); !is(sum, want) {
				t.Fatalf("of the first %d: %v, want %v", i, sum, want)
			}
			want.Add(want, of(l[i]))
		}
	}
}

// 7.2: Exact, Floor, Print, Parse.

func TestExact(t *testing.T) {
	for _, c := range []struct {
		a, b, want int
		e          api.Errno
	}{
		{6, 2, 3, api.OK},
		{-6, 2, -3, api.OK},
		{6, -2, -3, api.OK},
		{-6, -2, 3, api.OK},
		{0, 5, 0, api.OK},
		{0, -5, 0, api.OK},
		{5, 1, 5, api.OK},
		{5, -1, -5, api.OK},
		{-1 << 32, -1, 1 << 32, api.OK},
		{7, 2, 0, api.ErrRest},
		{-7, 2, 0, api.ErrRest},
		{7, -2, 0, api.ErrRest},
		{-7, -2, 0, api.ErrRest},
		{1, -2, 0, api.ErrRest},
		{7, 0, 0, api.ErrZero},
		{-7, 0, 0, api.ErrZero},
		{0, 0, 0, api.ErrZero},
	} {
		q, e := Exact(Of(c.a), Of(c.b))
		if !isInt(q, c.want) || e != c.e || e != api.OK && !nothing(q) {
			t.Errorf("Exact(%d, %d): %v, %v, want %d, %v", c.a, c.b, q, e, c.want, c.e)
		}
	}
}

func TestFloor(t *testing.T) {
	for _, c := range []struct{ a, b, quotient, left int }{
		{7, 2, 3, 1},
		{-7, 2, -4, 1},
		{7, -2, -4, -1},
		{-7, -2, 3, -1},
		{6, 2, 3, 0},
		{-6, 2, -3, 0},
		{6, -2, -3, 0},
		{-6, -2, 3, 0},
		{0, 5, 0, 0},
		{0, -5, 0, 0},
		{1, 5, 0, 1},
		{-1, 5, -1, 4},
		{1, -5, -1, -4},
		{-1, -5, 0, -1},
		{5, 5, 1, 0},
		{-5, 5, -1, 0},
		{5, -5, -1, 0},
		{-5, -5, 1, 0},
		{9, 1, 9, 0},
		{9, -1, -9, 0},
		{-9, 1, -9, 0},
		{-1, 1 << 40, -1, 1<<40 - 1},
		{1, -1 << 40, -1, -1<<40 + 1},
		{-1<<32 - 1, 1 << 32, -2, top},
		{1<<62 + 1, -1 << 31, -1<<31 - 1, -1<<31 + 1},
		{-top*2 - 1, 2, -1 << 32, 1},
	} {
		q, r, e := Floor(Of(c.a), Of(c.b))
		if !isInt(q, c.quotient) || !isInt(r, c.left) || e != api.OK {
			t.Errorf("Floor(%d, %d): %v, %v, %v, want %d, %d", c.a, c.b, q, r, e, c.quotient, c.left)
		}
	}
}

func TestZeroIsTold(t *testing.T) {
	for _, a := range append(samples(4), wrong...) {
		for _, b := range []api.Int{{}, {Abs: api.Nat{}}} {
			if q, r, e := Floor(a, b); !nothing(q) || !nothing(r) || e != api.ErrZero {
				t.Errorf("Floor(%v, 0): %v, %v, %v", a, q, r, e)
			}
			if q, e := Exact(a, b); !nothing(q) || e != api.ErrZero {
				t.Errorf("Exact(%v, 0): %v, %v", a, q, e)
			}
		}
	}
}

// floorOf is the quotient, rounded down, and what is left, by math/big, which knows only another way of rounding.
func floorOf(a, b *big.Int) (*big.Int, *big.Int) {
	left := new(big.Int).Mod(a, b) // from 0 up to b without its sign
	if left.Sign() != 0 && b.Sign() < 0 {
		left.Add(left, b)
	}
	quotient := new(big.Int).Sub(a, left)
	return quotient.Quo(quotient, b), left
}

func TestExactAndFloorOfMany(t *testing.T) {
	l := samples(12)
	for _, b := range l {
		if len(b.Abs) == 0 {
			continue
		}
		for _, a := range l {
			quotient, left := floorOf(of(a), of(b))
			if q, r, e := Floor(a, b); !is(q, quotient) || !is(r, left) || e != api.OK {
				t.Fatalf("Floor(%v, %v): %v, %v, %v, want %v, %v", a, b, q, r, e, quotient, left)
			}
			q, e := Exact(a, b)
			if left.Sign() != 0 && (!nothing(q) || e != api.ErrRest) || left.Sign() == 0 && (!is(q, quotient) || e != api.OK) {
				t.Fatalf("Exact(%v, %v): %v, %v", a, b, q, e)
			}
			if q, e := Exact(Mul(a, b), b); !equal(q, a) || e != api.OK {
				t.Fatalf("Exact of %v times %v, and the latter: %v, %v", a, b, q, e)
			}
		}
	}
}

func TestPrint(t *testing.T) {
	for _, c := range []struct {
		a    api.Int
		want string
	}{
		{api.Int{}, "0"},
		{api.Int{Abs: api.Nat{}}, "0"},
		{Of(7), "7"},
		{Of(-7), "-7"},
		{Of(-10), "-10"},
		{Of(math.MaxInt), "9223372036854775807"},
		{Of(math.MinInt), "-9223372036854775808"},
		{Made(true, api.Nat{0, 0, 1}), "-18446744073709551616"},
		{Neg(Of(0)), "0"},
	} {
		if text := Print(c.a); text != c.want {
			t.Errorf("Print(%v): %q, want %q", c.a, text, c.want)
		}
	}
}

func TestParse(t *testing.T) {
	for _, c := range []struct {
		s    string
		want int
	}{
		{"0", 0}, {"-0", 0}, {"000", 0}, {"-000", 0}, {"-" + strings.Repeat("0", 100), 0},
		{"7", 7}, {"-7", -7}, {"007", 7}, {"-00012", -12}, {"-10", -10},
		{"4294967296", 1 << 32}, {"-4294967296", -1 << 32},
		{"9223372036854775807", math.MaxInt}, {"-9223372036854775808", math.MinInt},
		{"-" + strings.Repeat("0", 100) + "1", -1},
	} {
		if a, e := Parse(c.s); !isInt(a, c.want) || e != api.OK {
			t.Errorf("Parse(%q): %v, %v, want %d", c.s, a, e, c.want)
		}
	}
	for _, s := range noTexts {
		if a, e := Parse(s); !nothing(a) || e != api.ErrText {
			t.Errorf("Parse(%q): %v, %v, want %v", s, a, e, api.ErrText)
		}
	}
}

// Of each byte, alone, ahead of a digit, and behind a -, there is one answer.
func TestParseOfEachByte(t *testing.T) {
	for n := range 256 {
		s := string([]byte{byte(n)})
		digit := n >= '0' && n <= '9'
		for _, c := range []struct {
			s    string
			may  bool
			want int
		}{
			{s, digit, n - '0'},
			{"-" + s, digit, '0' - n},
			{s + "5", digit, 10*(n-'0') + 5},
			{"5" + s, digit, 50 + n - '0'},
		} {
			if c.s == "-5" {
				c.may, c.want = true, -5
			}
			a, e := Parse(c.s)
			if c.may && (!isInt(a, c.want) || e != api.OK) || !c.may && (!nothing(a) || e != api.ErrText) {
				t.Errorf("Parse(%q): %v, %v", c.s, a, e)
			}
		}
	}
}

func TestPrintAndParseOfMany(t *testing.T) {
	for _, a := range samples(30) {
		want := of(a).String()
		if text := Print(a); text != want {
			t.Fatalf("Print(%v): %q, want %q", a, text, want)
		}
		if b, e := Parse(want); !equal(b, a) || e != api.OK {
			t.Fatalf("Parse(%q): %v, %v, want %v", want, b, e, a)
		}
		if b, e := Parse("-" + want); of(a).Sign() < 0 && (!nothing(b) || e != api.ErrText) || of(a).Sign() >= 0 && (!equal(b, Neg(a)) || e != api.OK) {
			t.Fatalf("Parse(%q): %v, %v", "-"+want, b, e)
		}
	}
}

// 7.3 (ring).

func TestSumsAndProductsInAnyOrder(t *testing.T) {
	l := samples(6)
	for _, a := range l {
		for _, b := range l {
			if !equal(Add(a, b), Add(b, a)) || !equal(Mul(a, b), Mul(b, a)) || !equal(Sum(a, b), Add(a, b)) {
				t.Fatalf("at %v, %v: the order tells", a, b)
			}
			for _, c := range l {
				if !equal(Add(Add(a, b), c), Add(a, Add(b, c))) || !equal(Sum(c, b, a), Add(Add(a, b), c)) {
					t.Fatalf("at %v, %v, %v: how sums are put together tells", a, b, c)
				}
				if !equal(Mul(Mul(a, b), c), Mul(a, Mul(b, c))) {
					t.Fatalf("at %v, %v, %v: how products are put together tells", a, b, c)
				}
				if !equal(Mul(a, Add(b, c)), Add(Mul(a, b), Mul(a, c))) {
					t.Fatalf("at %v, %v, %v: the product of a sum is no sum of products", a, b, c)
				}
			}
		}
	}
}

func TestWhatWasAddedIsTakenOff(t *testing.T) {
	l := samples(12)
	for _, a := range l {
		if !equal(Add(a, Of(0)), a) || !equal(Mul(a, Of(1)), a) || !is(Add(a, Neg(a)), new(big.Int)) || !is(Sub(a, a), new(big.Int)) || !equal(Mul(a, Of(-1)), Neg(a)) {
			t.Fatalf("at %v: 0 and 1 do not leave it, or it does not go", a)
		}
		for _, b := range l {
			if !equal(Sub(Add(a, b), b), a) || !equal(Add(Sub(a, b), b), a) || !equal(Sub(a, b), Add(a, Neg(b))) {
				t.Fatalf("at %v, %v: what was added is not taken off", a, b)
			}
			if Cmp(a, b) != Sign(Sub(a, b)) || Cmp(a, b) != -Cmp(b, a) {
				t.Fatalf("at %v, %v: Cmp is not the sign of the difference", a, b)
			}
		}
	}
}

// 7.4 (floor).

func TestTheQuotientMakesTheWhole(t *testing.T) {
	l := samples(12)
	for _, b := range l {
		if len(b.Abs) == 0 {
			continue
		}
		for _, a := range l {
			q, r, e := Floor(a, b)
			if e != api.OK || !equal(Add(Mul(q, b), r), a) {
				t.Fatalf("Floor(%v, %v): %v, %v, %v, which do not make the whole", a, b, q, r, e)
			}
			if of(r).Sign() != 0 && of(r).Sign() != of(b).Sign() || of(r).CmpAbs(of(b)) >= 0 {
				t.Fatalf("Floor(%v, %v): %v is left, which lies beyond", a, b, r)
			}
		}
	}
}

// P1, P2, and the rules.

// told are the answers of all calls at the same two numbers, and at a text.
type told struct {
	numbers []api.Int
	signs   [2]int
	errors  [3]api.Errno
	text    string
}

func answers(a, b api.Int, s string) told {
	l := told{numbers: make([]api.Int, 9), signs: [2]int{Sign(a), Cmp(a, b)}, text: Print(a)}
	l.numbers[0], l.numbers[1], l.numbers[2] = Made(a.Neg, a.Abs), Neg(a), Add(a, b)
	l.numbers[3], l.numbers[4] = Sub(a, b), Mul(a, b)
	l.numbers[5], l.errors[0] = Exact(a, b)
	l.numbers[6], l.numbers[7], l.errors[1] = Floor(a, b)
	l.numbers[8], l.errors[2] = Parse(s)
	l.numbers = append(l.numbers, Sum(), Sum(a), Sum(b), Sum(a, b, a, b))
	return l
}

func same(a, b told) bool {
	return slices.EqualFunc(a.numbers, b.numbers, equal) && a.signs == b.signs && a.errors == b.errors && a.text == b.text
}

// Every call ends, and none panics, at numbers that may not be as well; with an error all else is nothing.
func TestEveryCallAnswers(t *testing.T) {
	l := append(samples(4), wrong...)
	texts := append([]string{"0", "-0", "7", "-7", strings.Repeat("12", 50), "-" + strings.Repeat("12", 50)}, noTexts...)
	for i, a := range l {
		for j, b := range l {
			s := texts[(i+j)%len(texts)]
			first := answers(a, b, s)
			if !same(first, answers(a, b, s)) {
				t.Fatalf("at %v, %v, %q: twice asked, two answers", a, b, s)
			}
			for i, numbers := range [][]api.Int{first.numbers[5:6], first.numbers[6:8], first.numbers[8:9]} {
				if first.errors[i] != api.OK && !slices.EqualFunc(numbers, make([]api.Int, len(numbers)), equal) {
					t.Fatalf("at %v, %v, %q: %v beside error %d", a, b, s, numbers, first.errors[i])
				}
			}
		}
	}
	for n := range len(l) {
		Sum(l[n:]...)
	}
}

// roomy is a with room behind, in which nothing may be laid.
func roomy(a api.Int) api.Int {
	return api.Int{Neg: a.Neg, Abs: append(make(api.Nat, 0, len(a.Abs)+8), a.Abs...)}
}

// clean tells whether nothing lies in the room behind a.
func clean(a api.Int) bool {
	behind := a.Abs[len(a.Abs):cap(a.Abs)]
	return !slices.ContainsFunc(behind, func(x uint64) bool { return x != 0 })
}

// What is handed in stays as it is, and what is handed out is memory of its own.
func TestMemoryIsNotShared(t *testing.T) {
	for _, a := range samples(5) {
		for _, b := range samples(3) {
			m, n := roomy(a), roomy(b)
			numbers := answers(m, n, "-123456789012345678901234567890").numbers
			if !equal(m, a) || !equal(n, b) || !clean(m) || !clean(n) {
				t.Fatalf("%v, %v are changed to %v, %v", a, b, m, n)
			}
			for i, number := range numbers {
				kept := make([]api.Nat, len(numbers))
				for j, other := range numbers {
					kept[j] = slices.Clone(other.Abs)
				}
				for j := range number.Abs[:cap(number.Abs)] {
					number.Abs[:cap(number.Abs)][j] = 77
				}
				if !equal(m, a) || !equal(n, b) {
					t.Fatalf("at %v, %v: answer %d is what is handed in", a, b, i)
				}
				for j, other := range numbers {
					if j != i && !slices.Equal(other.Abs, kept[j]) {
						t.Fatalf("at %v, %v: answer %d is answer %d", a, b, i, j)
					}
				}
			}
		}
	}
}

// One number handed in twice is no worse than two.
func TestANumberByItself(t *testing.T) {
	for _, a := range samples(12) {
		kept := api.Int{Neg: a.Neg, Abs: slices.Clone(a.Abs)}
		if Cmp(a, a) != 0 || !equal(Add(a, a), Mul(Of(2), a)) || !equal(Sum(a, a, a), Mul(Of(3), a)) || !is(Mul(a, a), new(big.Int).Mul(of(a), of(a))) {
			t.Fatalf("%v by itself", a)
		}
		if len(a.Abs) > 0 {
			q, r, e := Floor(a, a)
			exact, f := Exact(a, a)
			if !isInt(q, 1) || !isInt(r, 0) || !isInt(exact, 1) || e != api.OK || f != api.OK {
				t.Fatalf("%v by itself: %v, %v, %v, %v, %v", a, q, r, e, exact, f)
			}
		}
		if !equal(a, kept) {
			t.Fatalf("%v is changed to %v", kept, a)
		}
	}
}

func TestRefusedCallsChangeNothing(t *testing.T) {
	for _, a := range samples(4) {
		for _, b := range samples(2) {
			before := answers(a, b, "-42")
			_, exact := Exact(a, Of(0))
			_, rest := Exact(Of(7), Of(-2))
			_, _, floor := Floor(a, Of(0))
			_, parse := Parse("--42")
			if got := [4]api.Errno{exact, rest, floor, parse}; got != [4]api.Errno{api.ErrZero, api.ErrRest, api.ErrZero, api.ErrText} {
				t.Fatalf("not refused: %v", got)
			}
			if !same(before, answers(a, b, "-42")) {
				t.Fatalf("at %v, %v: other answers behind a refused call", a, b)
			}
		}
	}
}
