package rat

import (
	"encoding/binary"
	"math"
	"math/big"
	"slices"
	"testing"

	"trivium/api"
)

const top = 1<<32 - 1 // the greatest limb

// ints are those at the ends of what an int holds, and about 0.
var ints = []int{
	0, 1, 2, 3, 4, 6, 7, 9, 10, 1<<31 - 1, 1 << 31, top, 1 << 32, 1<<32 + 1, 1 << 62, math.MaxInt - 1, math.MaxInt,
	-1, -2, -3, -4, -6, -7, -9, -10, -1<<31 + 1, -1 << 31, -top, -1 << 32, -1<<32 - 1, -1 << 62, math.MinInt + 1, math.MinInt,
}

// edges are fractions that may be, at the ends of limbs, and such whose lower parts have much or nothing in common.
var edges = []api.Rat{
	{Den: api.Nat{1}}, {Num: api.Int{Abs: api.Nat{}}, Den: api.Nat{1}},
	frac(1, 1), frac(-1, 1), frac(2, 1), frac(-3, 1), frac(1, 2), frac(-1, 2), frac(2, 3), frac(-3, 2), frac(1, 6), frac(-5, 6), frac(1, 10), frac(7, 15),
	frac(top, 1), frac(1, top), frac(-1, 1<<32), frac(1<<32, 1), frac(top, 1<<32), frac(1<<32, -top), frac(1<<32+1, 1<<31), frac(-1<<62, top), frac(math.MaxInt, 1<<62), frac(math.MinInt, 3), frac(1, math.MinInt),
	parts(false, ones(3), api.Nat{0, 0, 0, 1}), parts(true, api.Nat{0, 0, 0, 1}, ones(3)), parts(true, api.Nat{1}, api.Nat{0, 0, 0, 1}), parts(false, ones(5), api.Nat{1}), parts(false, api.Nat{1}, ones(6)),
}

// wrong are fractions that may not be.
var wrong = []api.Rat{
	{},
	{Den: api.Nat{}},
	{Den: api.Nat{0}},
	{Den: make(api.Nat, 5)},
	{Den: api.Nat{2}},
	{Den: api.Nat{0, 1}},
	{Den: api.Nat{1, 0}},
	{Den: api.Nat{1 << 32}},
	{Num: api.Int{Neg: true}, Den: api.Nat{1}},
	{Num: api.Int{Neg: true, Abs: api.Nat{}}, Den: api.Nat{1}},
	{Num: api.Int{Abs: api.Nat{0}}, Den: api.Nat{1}},
	{Num: api.Int{Neg: true, Abs: api.Nat{0}}, Den: api.Nat{1}},
	{Num: api.Int{Abs: make(api.Nat, 4)}, Den: make(api.Nat, 4)},
	{Num: api.Int{Abs: api.Nat{1}}},
	{Num: api.Int{Neg: true, Abs: api.Nat{7}}, Den: api.Nat{}},
	{Num: api.Int{Abs: api.Nat{1}}, Den: api.Nat{0}},
	{Num: api.Int{Abs: api.Nat{2}}, Den: api.Nat{2}},
	{Num: api.Int{Abs: api.Nat{4}}, Den: api.Nat{6}},
	{Num: api.Int{Neg: true, Abs: api.Nat{3}}, Den: api.Nat{9}},
	{Num: api.Int{Abs: api.Nat{0, 1}}, Den: api.Nat{2}},
	{Num: api.Int{Abs: api.Nat{3}}, Den: api.Nat{0, 3}},
	{Num: api.Int{Abs: api.Nat{5, 0}}, Den: api.Nat{1}},
	{Num: api.Int{Abs: api.Nat{5}}, Den: api.Nat{1, 0}},
	{Num: api.Int{Abs: api.Nat{1 << 32}}, Den: api.Nat{1}},
	{Num: api.Int{Abs: api.Nat{1}}, Den: api.Nat{1 << 32}},
	{Num: api.Int{Abs: api.Nat{1}}, Den: api.Nat{1 << 32, 1}},
	{Num: api.Int{Neg: true, Abs: api.Nat{1<<64 - 1}}, Den: api.Nat{1<<64 - 1}},
	{Num: api.Int{Abs: api.Nat{1 << 63, 1 << 63}}, Den: api.Nat{1 << 33, 5}},
	{Num: api.Int{Neg: true, Abs: slices.Repeat(api.Nat{1<<64 - 1}, 7)}, Den: api.Nat{0, 1 << 40, 0}},
	{Num: api.Int{Abs: append(ones(9), 0, 0)}, Den: append(make(api.Nat, 40), 1<<40)},
}

// frac is n over d, which is not 0, by math/big.
func frac(n, d int) api.Rat { return from(big.NewRat(int64(n), int64(d))) }

// parts is num over den, as they are.
func parts(neg bool, num, den api.Nat) api.Rat {
	return api.Rat{Num: api.Int{Neg: neg, Abs: num}, Den: den}
}

// ones is the number of n limbs, all of them as great as can be.
func ones(n int) api.Nat { return slices.Repeat(api.Nat{top}, n) }

// drawn is a number of n limbs, for each seed above 0 another one, always the same; many of its limbs are at the ends.
func drawn(n int, seed uint64) api.Nat {
	a, x := make(api.Nat, n), seed*88172645463325252
	for i := range a {
		x ^= x << 13
		x ^= x >> 7
		x ^= x << 17
		switch x % 6 {
		case 0: // left as it is
		case 1:
			a[i] = top
		case 2:
			a[i] = 1 << 31
		default:
			a[i] = x >> 32
		}
	}
	a[n-1] = max(a[n-1], 1)
	return a
}

// samples are fractions that may be: the edges, and four of each length up to longest, two of which have lower parts with much in common.
func samples(longest int) []api.Rat {
	l := slices.Clone(edges)
	common := abs(drawn(2, 5000))
	for n := 1; n <= longest; n++ {
		seed := uint64(n)
		a, b := abs(drawn(n, seed)), abs(drawn(n, seed+1000))
		c, d := abs(drawn(n/2+1, seed+2000)), abs(drawn(n, seed+3000))
		l = append(l,
			from(new(big.Rat).SetFrac(a, b)),
			from(new(big.Rat).SetFrac(new(big.Int).Neg(d), c)),
			from(new(big.Rat).SetFrac(c, new(big.Int).Mul(common, d))),
			from(new(big.Rat).SetFrac(new(big.Int).Neg(a), new(big.Int).Mul(common, c))))
	}
	return l
}

// abs is a as a number of math/big, so that nothing here reckons as the package does.
func abs(a api.Nat) *big.Int {
	var l []byte
	for _, x := range slices.Backward(a) {
		l = binary.BigEndian.AppendUint32(l, uint32(x))
	}
	return new(big.Int).SetBytes(l)
}

// limbs is n, without its sign, as a number of api.
func limbs(n *big.Int) api.Nat {
	var a api.Nat
	for n = new(big.Int).Abs(n); n.Sign() != 0; n.Rsh(n, 32) {
		a = append(a, new(big.Int).And(n, big.NewInt(top)).Uint64())
	}
	return a
}

// from is n as a fraction of api.
func from(n *big.Rat) api.Rat { return parts(n.Sign() < 0, limbs(n.Num()), limbs(n.Denom())) }

// signed is n as a whole number of api.
func signed(n *big.Int) api.Int { return api.Int{Neg: n.Sign() < 0, Abs: limbs(n)} }

// of is a, which may be, as a fraction of math/big.
func of(a api.Rat) *big.Rat {
	n := new(big.Rat).SetFrac(abs(a.Num.Abs), abs(a.Den))
	if a.Num.Neg {
		n.Neg(n)
	}
	return n
}

// equal tells whether both are the same, limb by limb.
func equal(a, b api.Rat) bool {
	return a.Num.Neg == b.Num.Neg && slices.Equal(a.Num.Abs, b.Num.Abs) && slices.Equal(a.Den, b.Den)
}

// is tells whether a is n, and may be: n has one such form alone.
func is(a api.Rat, n *big.Rat) bool { return equal(a, from(n)) }

// nothing tells whether a is the zero value.
func nothing(a api.Rat) bool { return !a.Num.Neg && a.Num.Abs == nil && a.Den == nil }

// 8.1: Make, Of, Frac, May.

func TestFrac(t *testing.T) {
	for _, c := range []struct {
		n, d int
		want api.Rat
		e    api.Errno
	}{
		{4, -6, parts(true, api.Nat{2}, api.Nat{3}), api.OK},
		{-4, 6, parts(true, api.Nat{2}, api.Nat{3}), api.OK},
		{4, 6, parts(false, api.Nat{2}, api.Nat{3}), api.OK},
		{-4, -6, parts(false, api.Nat{2}, api.Nat{3}), api.OK},
		{2, 3, parts(false, api.Nat{2}, api.Nat{3}), api.OK},
		{6, 3, parts(false, api.Nat{2}, api.Nat{1}), api.OK},
		{3, 6, parts(false, api.Nat{1}, api.Nat{2}), api.OK},
		{0, 1, parts(false, nil, api.Nat{1}), api.OK},
		{0, 5, parts(false, nil, api.Nat{1}), api.OK},
		{0, -5, parts(false, nil, api.Nat{1}), api.OK},
		{7, 7, parts(false, api.Nat{1}, api.Nat{1}), api.OK},
		{7, -7, parts(true, api.Nat{1}, api.Nat{1}), api.OK},
		{1 << 33, 1 << 32, parts(false, api.Nat{2}, api.Nat{1}), api.OK},
		{1, 1 << 32, parts(false, api.Nat{1}, api.Nat{0, 1}), api.OK},
		{math.MinInt, math.MinInt, parts(false, api.Nat{1}, api.Nat{1}), api.OK},
		{math.MinInt, 1, parts(true, api.Nat{0, 1 << 31}, api.Nat{1}), api.OK},
		{1, math.MinInt, parts(true, api.Nat{1}, api.Nat{0, 1 << 31}), api.OK},
		{5, 0, api.Rat{}, api.ErrZero},
		{-5, 0, api.Rat{}, api.ErrZero},
		{0, 0, api.Rat{}, api.ErrZero},
	} {
		a, e := Frac(c.n, c.d)
		if !equal(a, c.want) || e != c.e || e != api.OK && !nothing(a) {
			t.Errorf("Frac(%d, %d): %v, %v, want %v, %v", c.n, c.d, a, e, c.want, c.e)
		}
	}
}

func TestOfAndFracOfMany(t *testing.T) {
	for _, n := range ints {
		if a := Of(n); !is(a, new(big.Rat).SetInt64(int64(n))) {
			t.Errorf("Of(%d): %v", n, a)
		}
		for _, d := range ints {
			a, e := Frac(n, d)
			if d == 0 && (!nothing(a) || e != api.ErrZero) || d != 0 && (!is(a, big.NewRat(int64(n), int64(d))) || e != api.OK) {
				t.Errorf("Frac(%d, %d): %v, %v", n, d, a, e)
			}
		}
	}
}

func TestMake(t *testing.T) {
	var l []*big.Int
	for _, n := range ints {
		l = append(l, big.NewInt(int64(n)))
	}
	for n := 1; n <= 12; n++ {
		a := abs(drawn(n, uint64(n)))
		l = append(l, a, new(big.Int).Neg(abs(drawn(n, uint64(n)+1000))), new(big.Int).Mul(a, big.NewInt(-360360)), new(big.Int).Lsh(a, 32))
	}
	for _, m := range l {
		for _, n := range l {
			a, e := Make(signed(m), signed(n))
			if n.Sign() == 0 {
				if !nothing(a) || e != api.ErrZero {
					t.Fatalf("Make(%v, 0): %v, %v", m, a, e)
				}
			} else if !is(a, new(big.Rat).SetFrac(m, n)) || e != api.OK {
				t.Fatalf("Make(%v, %v): %v, %v", m, n, a, e)
			}
		}
	}
	for _, den := range []api.Int{{}, {Abs: api.Nat{}}} {
		if a, e := Make(api.Int{Abs: api.Nat{7}}, den); !nothing(a) || e != api.ErrZero {
			t.Errorf("Make(7, %v): %v, %v", den, a, e)
		}
	}
}

func TestMay(t *testing.T) {
	for _, a := range samples(20) {
		if !May(a) {
			t.Errorf("May(%v): false", a)
		}
	}
	for _, a := range wrong {
		if May(a) {
			t.Errorf("May(%v): true", a)
		}
	}
	for n := range uint64(40) {
		for d := uint64(1); d < 40; d++ {
			may := new(big.Int).GCD(nil, nil, new(big.Int).SetUint64(n), new(big.Int).SetUint64(d)).Uint64() == 1
			num := limbs(new(big.Int).SetUint64(n))
			if May(parts(false, num, api.Nat{d})) != may || May(parts(true, num, api.Nat{d})) != (may && n > 0) {
				t.Errorf("May of %d over %d: not %v", n, d, may)
			}
		}
	}
}

// A common divisor, be it small or great, is found wherever it lies.
func TestMayOfWhatIsNotReduced(t *testing.T) {
	for _, a := range samples(12) {
		for _, k := range []*big.Int{big.NewInt(2), big.NewInt(3), big.NewInt(1 << 32), abs(drawn(3, 77))} {
			num, den := new(big.Int).Mul(abs(a.Num.Abs), k), new(big.Int).Mul(abs(a.Den), k)
			if May(parts(a.Num.Neg, limbs(num), limbs(den))) {
				t.Fatalf("May of %v, both parts times %v: true", a, k)
			}
		}
		if May(parts(a.Num.Neg, a.Num.Abs, nil)) || May(parts(a.Num.Neg, append(slices.Clone(a.Num.Abs), 0), a.Den)) || May(parts(a.Num.Neg, a.Num.Abs, append(slices.Clone(a.Den), 0))) {
			t.Fatalf("May of %v without a lower part, or with noughts behind: true", a)
		}
	}
}

// 8.2: Add, Sub, Mul, Div, Inv, Neg, Cmp, Sign, Same, One.

func TestAddSubMulAndDiv(t *testing.T) {
	for _, c := range []struct{ a, b, sum, rest, product, quotient api.Rat }{
		{frac(1, 2), frac(1, 3), frac(5, 6), frac(1, 6), frac(1, 6), frac(3, 2)},
		{frac(1, 6), frac(1, 10), frac(4, 15), frac(1, 15), frac(1, 60), frac(5, 3)},
		{frac(1, 2), frac(1, 2), frac(1, 1), frac(0, 1), frac(1, 4), frac(1, 1)},
		{frac(1, 2), frac(-1, 2), frac(0, 1), frac(1, 1), frac(-1, 4), frac(-1, 1)},
		{frac(2, 3), frac(-4, 9), frac(2, 9), frac(10, 9), frac(-8, 27), frac(-3, 2)},
		{frac(2, 3), frac(3, 2), frac(13, 6), frac(-5, 6), frac(1, 1), frac(4, 9)},
		{frac(-2, 3), frac(-3, 4), frac(-17, 12), frac(1, 12), frac(1, 2), frac(8, 9)},
		{frac(0, 1), frac(-5, 7), frac(-5, 7), frac(5, 7), frac(0, 1), frac(0, 1)},
		{frac(5, 1), frac(3, 1), frac(8, 1), frac(2, 1), frac(15, 1), frac(5, 3)},
		{frac(5, 12), frac(7, 12), frac(1, 1), frac(-1, 6), frac(35, 144), frac(5, 7)},
		{frac(top, 1<<32), frac(1, 1<<32), frac(1, 1), frac(top-1, 1<<32), parts(false, api.Nat{top}, api.Nat{0, 0, 1}), frac(top, 1)},
	} {
		if sum := Add(c.a, c.b); !equal(sum, c.sum) {
			t.Errorf("Add(%v, %v): %v, want %v", c.a, c.b, sum, c.sum)
		}
		if rest := Sub(c.a, c.b); !equal(rest, c.rest) {
			t.Errorf("Sub(%v, %v): %v, want %v", c.a, c.b, rest, c.rest)
		}
		if product := Mul(c.a, c.b); !equal(product, c.product) {
			t.Errorf("Mul(%v, %v): %v, want %v", c.a, c.b, product, c.product)
		}
		if quotient, e := Div(c.a, c.b); !equal(quotient, c.quotient) || e != api.OK {
			t.Errorf("Div(%v, %v): %v, %v, want %v", c.a, c.b, quotient, e, c.quotient)
		}
	}
}

func TestAddSubMulDivAndCmpOfMany(t *testing.T) {
	l := samples(14)
	for _, a := range l {
		for _, b := range l {
			m, n := of(a), of(b)
			if sum := Add(a, b); !is(sum, new(big.Rat).Add(m, n)) {
				t.Fatalf("Add(%v, %v): %v", a, b, sum)
			}
			if rest := Sub(a, b); !is(rest, new(big.Rat).Sub(m, n)) {
				t.Fatalf("Sub(%v, %v): %v", a, b, rest)
			}
			if product := Mul(a, b); !is(product, new(big.Rat).Mul(m, n)) {
				t.Fatalf("Mul(%v, %v): %v", a, b, product)
			}
			if order := Cmp(a, b); order != m.Cmp(n) {
				t.Fatalf("Cmp(%v, %v): %d", a, b, order)
			}
			if Same(a, b) != (m.Cmp(n) == 0) {
				t.Fatalf("Same(%v, %v): %v", a, b, Same(a, b))
			}
			if n.Sign() == 0 {
				continue
			}
			if quotient, e := Div(a, b); !is(quotient, new(big.Rat).Quo(m, n)) || e != api.OK {
				t.Fatalf("Div(%v, %v): %v, %v", a, b, quotient, e)
			}
		}
	}
}

func TestNegInvSignAndOne(t *testing.T) {
	for _, a := range samples(20) {
		n := of(a)
		if b := Neg(a); !is(b, new(big.Rat).Neg(n)) || !equal(Neg(b), a) {
			t.Fatalf("Neg(%v): %v", a, b)
		}
		if s := Sign(a); s != n.Sign() {
			t.Fatalf("Sign(%v): %d", a, s)
		}
		if One(a) != (n.Cmp(big.NewRat(1, 1)) == 0) {
			t.Fatalf("One(%v): %v", a, One(a))
		}
		if n.Sign() == 0 {
			continue
		}
		b, e := Inv(a)
		if !is(b, new(big.Rat).Inv(n)) || e != api.OK {
			t.Fatalf("Inv(%v): %v, %v", a, b, e)
		}
	}
}

func TestZeroIsTold(t *testing.T) {
	for _, b := range []api.Rat{frac(0, 1), {Num: api.Int{Abs: api.Nat{}}, Den: api.Nat{1}}} {
		if c, e := Inv(b); !nothing(c) || e != api.ErrZero {
			t.Errorf("Inv(%v): %v, %v", b, c, e)
		}
		for _, a := range append(samples(4), wrong...) {
			if c, e := Div(a, b); !nothing(c) || e != api.ErrZero {
				t.Errorf("Div(%v, %v): %v, %v", a, b, c, e)
			}
		}
	}
}

func TestCmp(t *testing.T) {
	for _, c := range []struct {
		a, b api.Rat
		want int
	}{
		{frac(1, 3), frac(1, 2), -1},
		{frac(-1, 3), frac(-1, 2), 1},
		{frac(1, 2), frac(1, 3), 1},
		{frac(-1, 2), frac(-1, 3), -1},
		{frac(1, 2), frac(-1, 3), 1},
		{frac(-1, 2), frac(1, 3), -1},
		{frac(2, 5), frac(3, 7), -1},
		{frac(5, 2), frac(7, 3), 1},
		{frac(2, 4), frac(1, 2), 0},
		{frac(0, 1), frac(0, -3), 0},
		{frac(0, 1), frac(1, 9), -1},
		{frac(0, 1), frac(-1, 9), 1},
		{frac(top, 1<<32), frac(1, 1), -1},
		{frac(1<<32, top), frac(1, 1), 1},
		{frac(math.MaxInt, math.MaxInt-1), frac(math.MaxInt-1, math.MaxInt-2), -1},
	} {
		if order := Cmp(c.a, c.b); order != c.want {
			t.Errorf("Cmp(%v, %v): %d, want %d", c.a, c.b, order, c.want)
		}
	}
}

// A difference in a single limb, in a sign, or in how many limbs there are tells.
func TestSame(t *testing.T) {
	a := parts(false, api.Nat{1, 2, 3}, api.Nat{5, 6, 7, 8})
	for _, b := range []api.Rat{
		parts(true, api.Nat{1, 2, 3}, api.Nat{5, 6, 7, 8}),
		parts(false, api.Nat{0, 2, 3}, api.Nat{5, 6, 7, 8}),
		parts(false, api.Nat{1, 3, 3}, api.Nat{5, 6, 7, 8}),
		parts(false, api.Nat{1, 2, 4}, api.Nat{5, 6, 7, 8}),
		parts(false, api.Nat{1, 2}, api.Nat{5, 6, 7, 8}),
		parts(false, api.Nat{1, 2, 3, 1}, api.Nat{5, 6, 7, 8}),
		parts(false, nil, api.Nat{5, 6, 7, 8}),
		parts(false, api.Nat{1, 2, 3}, api.Nat{4, 6, 7, 8}),
		parts(false, api.Nat{1, 2, 3}, api.Nat{5, 6, 9, 8}),
		parts(false, api.Nat{1, 2, 3}, api.Nat{5, 6, 7, 9}),
		parts(false, api.Nat{1, 2, 3}, api.Nat{5, 6, 7}),
		parts(false, api.Nat{1, 2, 3}, api.Nat{5, 6, 7, 8, 9}),
		parts(false, api.Nat{5, 6, 7, 8}, api.Nat{1, 2, 3}),
		{},
	} {
		if Same(a, b) || Same(b, a) {
			t.Errorf("Same(%v, %v): true", a, b)
		}
	}
	if !Same(a, parts(false, api.Nat{1, 2, 3}, api.Nat{5, 6, 7, 8})) {
		t.Errorf("Same(%v, and its like): false", a)
	}
	if !Same(parts(false, nil, api.Nat{1}), parts(false, api.Nat{}, api.Nat{1})) {
		t.Error("two noughts, nil and empty, are not the same")
	}
}

func TestOne(t *testing.T) {
	for _, c := range []struct {
		a    api.Rat
		want bool
	}{
		{frac(1, 1), true}, {frac(3, 3), true}, {frac(-3, -3), true},
		{frac(-1, 1), false}, {frac(0, 1), false}, {frac(2, 1), false}, {frac(1, 2), false}, {frac(1<<32, 1), false}, {frac(1<<32+1, 1), false}, {frac(1, 1<<32+1), false},
	} {
		if One(c.a) != c.want {
			t.Errorf("One(%v): %v", c.a, !c.want)
		}
	}
}

// 8.3 (field).

func TestSumsAndProductsInAnyOrder(t *testing.T) {
	l := samples(3)
	for _, a := range l {
		for _, b := range l {
			sum, product := Add(a, b), Mul(a, b)
			if !equal(sum, Add(b, a)) || !equal(product, Mul(b, a)) {
				t.Fatalf("at %v, %v: the order tells", a, b)
			}
			for _, c := range l {
				if !equal(Add(sum, c), Add(a, Add(b, c))) {
					t.Fatalf("at %v, %v, %v: how sums are put together tells", a, b, c)
				}
				if !equal(Mul(product, c), Mul(a, Mul(b, c))) {
					t.Fatalf("at %v, %v, %v: how products are put together tells", a, b, c)
				}
				if !equal(Mul(sum, c), Add(Mul(a, c), Mul(b, c))) {
					t.Fatalf("at %v, %v, %v: the product of a sum is no sum of products", a, b, c)
				}
			}
		}
	}
}

func TestWhatWasDoneIsUndone(t *testing.T) {
	l := samples(10)
	nought, one := Of(0), Of(1)
	for _, a := range l {
		if !equal(Add(a, nought), a) || !equal(Mul(a, one), a) || !equal(Mul(a, nought), nought) || !equal(Add(a, Neg(a)), nought) || !equal(Sub(a, a), nought) || !equal(Mul(a, Of(-1)), Neg(a)) {
			t.Fatalf("at %v: 0 and 1 do not leave it, or it does not go", a)
		}
		for _, b := range l {
			if !equal(Sub(Add(a, b), b), a) || !equal(Add(Sub(a, b), b), a) || !equal(Sub(a, b), Add(a, Neg(b))) {
				t.Fatalf("at %v, %v: what was added is not taken off", a, b)
			}
			upside, e := Inv(b)
			if of(b).Sign() == 0 {
				continue
			}
			quotient, f := Div(a, b)
			back, g := Div(Mul(a, b), b)
			if e != api.OK || f != api.OK || g != api.OK || !equal(back, a) || !equal(Mul(quotient, b), a) || !equal(quotient, Mul(a, upside)) || !One(Mul(b, upside)) {
				t.Fatalf("at %v, %v: what was multiplied is not divided", a, b)
			}
		}
	}
}

// All answers may be, over many steps: each one goes into the next.
func TestAllAnswersMayBe(t *testing.T) {
	sum, product := Of(0), Of(1)
	for i, a := range samples(14) {
		sum = Add(Sub(Neg(sum), a), Of(i))
		if Sign(a) != 0 {
			product, _ = Div(Mul(product, Add(a, Of(3*i))), a)
		}
		upside, _ := Inv(Add(Mul(sum, sum), Of(1)))
		for _, answer := range []api.Rat{sum, product, upside} {
			if !May(answer) || !is(answer, of(answer)) {
				t.Fatalf("at %v: %v may not be", a, answer)
			}
		}
	}
}

// 8.4 (order).

func TestCmpIsAnOrder(t *testing.T) {
	l := samples(3)
	for _, a := range l {
		for _, b := range l {
			order := Cmp(a, b)
			if order != -Cmp(b, a) || order != Sign(Sub(a, b)) || (order == 0) != Same(a, b) || order != Cmp(Neg(b), Neg(a)) {
				t.Fatalf("at %v, %v: %d is no order", a, b, order)
			}
			for _, c := range l {
				if Cmp(Add(a, c), Add(b, c)) != order {
					t.Fatalf("at %v, %v: the sums with %v do not keep the order", a, b, c)
				}
				if order < 0 && Cmp(b, c) < 0 && Cmp(a, c) >= 0 {
					t.Fatalf("at %v, %v, %v: it rises and does not rise", a, b, c)
				}
			}
		}
	}
}

// P1, P2, and the rules.

// told are the answers of all calls at the same two fractions.
type told struct {
	fractions []api.Rat
	errors    [4]api.Errno
	signs     [2]int
	yes       [3]bool
}

func answers(a, b api.Rat) told {
	l := told{fractions: make([]api.Rat, 9), signs: [2]int{Sign(a), Cmp(a, b)}, yes: [3]bool{May(a), Same(a, b), One(a)}}
	l.fractions[0], l.errors[0] = Make(a.Num, b.Num)
	l.fractions[1], l.errors[1] = Div(a, b)
	l.fractions[2], l.errors[2] = Inv(a)
	l.fractions[3], l.errors[3] = Frac(6*len(a.Den), -4*len(b.Den))
	l.fractions[4], l.fractions[5], l.fractions[6] = Add(a, b), Sub(a, b), Mul(a, b)
	l.fractions[7], l.fractions[8] = Neg(a), Of(len(a.Den))
	return l
}

func same(a, b told) bool {
	return slices.EqualFunc(a.fractions, b.fractions, equal) && a.errors == b.errors && a.signs == b.signs && a.yes == b.yes
}

// Every call ends, and none panics, at fractions that may not be as well; with an error all else is nothing.
func TestEveryCallAnswers(t *testing.T) {
	l := append(samples(4), wrong...)
	for _, a := range l {
		for _, b := range l {
			first := answers(a, b)
			if !same(first, answers(a, b)) {
				t.Fatalf("at %v, %v: twice asked, two answers", a, b)
			}
			for i, e := range first.errors {
				if e != api.OK && (!nothing(first.fractions[i]) || e != api.ErrZero) {
					t.Fatalf("at %v, %v: %v beside %v", a, b, first.fractions[i], e)
				}
			}
		}
	}
}

// roomy is a with room behind, in which nothing may be laid.
func roomy(a api.Nat) api.Nat { return append(make(api.Nat, 0, len(a)+8), a...) }

// clean tells whether nothing lies in the room behind a.
func clean(a api.Nat) bool {
	return !slices.ContainsFunc(a[len(a):cap(a)], func(x uint64) bool { return x != 0 })
}

// lists are all lists of limbs in these fractions.
func lists(l []api.Rat) []api.Nat {
	var all []api.Nat
	for _, a := range l {
		all = append(all, a.Num.Abs, a.Den)
	}
	return all
}

// What is handed in stays as it is, and what is handed out is memory of its own, the two lists of an answer too.
func TestMemoryIsNotShared(t *testing.T) {
	for _, a := range samples(4) {
		for _, b := range samples(2) {
			m, n := parts(a.Num.Neg, roomy(a.Num.Abs), roomy(a.Den)), parts(b.Num.Neg, roomy(b.Num.Abs), roomy(b.Den))
			all := lists(answers(m, n).fractions)
			for i, list := range all {
				kept := make([]api.Nat, len(all))
				for j, other := range all {
					kept[j] = slices.Clone(other)
				}
				for j := range list[:cap(list)] {
					list[:cap(list)][j] = 77
				}
				for j, other := range all {
					if j != i && !slices.Equal(other, kept[j]) {
						t.Fatalf("at %v, %v: list %d is list %d", a, b, i, j)
					}
				}
			}
			if !equal(m, a) || !equal(n, b) || !clean(m.Num.Abs) || !clean(m.Den) || !clean(n.Num.Abs) || !clean(n.Den) {
				t.Fatalf("%v, %v are changed to %v, %v", a, b, m, n)
			}
		}
	}
}

// One fraction handed in twice is no worse than two.
func TestAFractionByItself(t *testing.T) {
	for _, a := range samples(12) {
		kept := parts(a.Num.Neg, slices.Clone(a.Num.Abs), slices.Clone(a.Den))
		n := of(a)
		if Cmp(a, a) != 0 || !Same(a, a) || !is(Add(a, a), new(big.Rat).Add(n, n)) || !is(Sub(a, a), new(big.Rat)) || !is(Mul(a, a), new(big.Rat).Mul(n, n)) {
			t.Fatalf("%v by itself", a)
		}
		if n.Sign() != 0 {
			if quotient, e := Div(a, a); !One(quotient) || e != api.OK {
				t.Fatalf("%v by itself: %v, %v", a, quotient, e)
			}
		}
		if !equal(a, kept) {
			t.Fatalf("%v is changed to %v", kept, a)
		}
	}
}

func TestRefusedCallsChangeNothing(t *testing.T) {
	nought := Of(0)
	for _, a := range samples(4) {
		for _, b := range samples(2) {
			before := answers(a, b)
			_, made := Make(a.Num, api.Int{})
			_, frac := Frac(7, 0)
			_, div := Div(a, nought)
			_, inv := Inv(nought)
			if got := [4]api.Errno{made, frac, div, inv}; got != [4]api.Errno{api.ErrZero, api.ErrZero, api.ErrZero, api.ErrZero} {
				t.Fatalf("not refused: %v", got)
			}
			if !same(before, answers(a, b)) {
				t.Fatalf("at %v, %v: other answers behind a refused call", a, b)
			}
		}
	}
}
