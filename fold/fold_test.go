package fold

import (
	"encoding/binary"
	"math"
	"math/big"
	"slices"
	"testing"

	"trivium/api"
)

const top = 1<<32 - 1 // the greatest limb

// edges are fractions that may be, at the ends of limbs, about 0 and 1, and such whose lower parts have much or nothing in common.
var edges = []api.Rat{
	{Den: api.Nat{1}}, {Num: api.Int{Abs: api.Nat{}}, Den: api.Nat{1}},
	frac(1, 1), frac(-1, 1), frac(2, 1), frac(-3, 1), frac(1, 2), frac(-1, 2), frac(2, 3), frac(-3, 2), frac(1, 6), frac(-5, 6), frac(1, 10), frac(7, 15),
	frac(top, 1), frac(1, top), frac(-1, 1<<32), frac(1<<32, 1), frac(top, 1<<32), frac(1<<32, -top), frac(1<<32+1, 1<<31), frac(math.MaxInt, 1<<62), frac(math.MinInt, 3), frac(1, math.MinInt),
	parts(false, ones(3), api.Nat{0, 0, 0, 1}), parts(true, api.Nat{0, 0, 0, 1}, ones(3)), parts(false, api.Nat{1}, ones(6)),
}

// wrong are fractions that may not be.
var wrong = []api.Rat{
	{},
	{Den: api.Nat{}},
	{Den: api.Nat{0}},
	{Den: make(api.Nat, 5)},
	{Den: api.Nat{2}},
	{Den: api.Nat{1, 0}},
	{Den: api.Nat{1 << 32}},
	{Num: api.Int{Neg: true}},
	{Num: api.Int{Neg: true}, Den: api.Nat{1}},
	{Num: api.Int{Neg: true, Abs: api.Nat{}}, Den: api.Nat{1}},
	{Num: api.Int{Neg: true, Abs: api.Nat{0}}, Den: api.Nat{1}},
	{Num: api.Int{Abs: make(api.Nat, 4)}, Den: make(api.Nat, 4)},
	{Num: api.Int{Abs: api.Nat{1}}},
	{Num: api.Int{Neg: true, Abs: api.Nat{7}}, Den: api.Nat{}},
	{Num: api.Int{Abs: api.Nat{1}}, Den: api.Nat{0}},
	{Num: api.Int{Abs: api.Nat{2}}, Den: api.Nat{2}},
	{Num: api.Int{Neg: true, Abs: api.Nat{3}}, Den: api.Nat{9}},
	{Num: api.Int{Abs: api.Nat{3}}, Den: api.Nat{0, 3}},
	{Num: api.Int{Abs: api.Nat{5, 0}}, Den: api.Nat{1}},
	{Num: api.Int{Abs: api.Nat{1 << 32}}, Den: api.Nat{1}},
	{Num: api.Int{Abs: api.Nat{1}}, Den: api.Nat{1 << 32, 1}},
	{Num: api.Int{Neg: true, Abs: api.Nat{1<<64 - 1}}, Den: api.Nat{1<<64 - 1}},
	{Num: api.Int{Neg: true, Abs: slices.Repeat(api.Nat{1<<64 - 1}, 7)}, Den: api.Nat{0, 1 << 40, 0}},
	{Num: api.Int{Abs: append(ones(9), 0, 0)}, Den: append(make(api.Nat, 40), 1<<40)},
}

// weighings are lists of weights, and what is told of them.
var weighings = []struct {
	w []int
	e api.Errno
}{
	{nil, api.ErrNone},
	{[]int{}, api.ErrNone},
	{[]int{-1}, api.ErrArg},
	{[]int{math.MinInt}, api.ErrArg},
	{[]int{1, -1}, api.ErrArg},
	{[]int{-1, 1}, api.ErrArg},
	{[]int{-1, 0}, api.ErrArg},
	{[]int{0, 0, -1}, api.ErrArg},
	{[]int{5, 5, -1}, api.ErrArg},
	{[]int{math.MaxInt, math.MinInt, 1}, api.ErrArg},
	{[]int{0}, api.ErrZero},
	{[]int{0, 0, 0, 0}, api.ErrZero},
	{[]int{1}, api.OK},
	{[]int{7}, api.OK},
	{[]int{math.MaxInt}, api.OK},
	{[]int{0, 1}, api.OK},
	{[]int{1, 0, 0}, api.OK},
	{[]int{1, 3}, api.OK},
	{[]int{2, 0, 4}, api.OK},
	{[]int{6, 10, 15}, api.OK},
	{[]int{1, 1, 1, 1, 1, 1, 1}, api.OK},
	{[]int{1000, 999, 1, 500, 250, 250}, api.OK},
	{[]int{top, 1, 1 << 32}, api.OK},
	{[]int{math.MaxInt, 1}, api.OK},                     // as ints they come to one below 0
	{[]int{math.MaxInt, math.MaxInt, 2}, api.OK},        // and these to 0
	{[]int{1 << 62, 1 << 62, 1 << 62, 1 << 62}, api.OK}, // and these
	{slices.Repeat([]int{math.MaxInt}, 40), api.OK},
	{slices.Repeat([]int{3, 0, 8}, 40), api.OK},
}

// frac is n over d, which is not 0, by math/big.
func frac(n, d int) api.Rat { return from(big.NewRat(int64(n), int64(d))) }

// parts is num over den, as they are.
func parts(neg bool, num, den api.Nat) api.Rat {
	return api.Rat{Num: api.Int{Neg: neg, Abs: num}, Den: den}
}

// ones is the number of n limbs, all of them as great as can be.
func ones(n int) api.Nat { return slices.Repeat(api.Nat{top}, n) }

// drawn is a number of n limbs, for each seed above 0 another one, always the same; many of its limbs are at the ends.
func drawn(n int, seed uint64) api.Nat {
	a, x := make(api.Nat, n), seed*88172645463325252
	for i := range a {
		x ^= x << 13
		x ^= x >> 7
		x ^= x << 17
		switch x % 6 {
		case 0: // left as it is
		case 1:
			a[i] = top
		case 2:
			a[i] = 1 << 31
		default:
			a[i] = x >> 32
		}
	}
	a[n-1] = max(a[n-1], 1)
	return a
}

// samples are fractions that may be: the edges, and two of each length up to longest.
func samples(longest int) []api.Rat {
	l := slices.Clone(edges)
	for n := 1; n <= longest; n++ {
		a, b := abs(drawn(n, uint64(n))), abs(drawn(n, uint64(n)+1000))
		l = append(l, from(new(big.Rat).SetFrac(a, b)), from(new(big.Rat).SetFrac(new(big.Int).Neg(b), abs(drawn(n/2+1, uint64(n)+2000)))))
	}
	return l
}

// some are lists of fractions that may be: none, single ones, and such of many lengths, in order and out of it, with some that come again.
func some() [][]api.Rat {
	all := samples(6)
	lists := [][]api.Rat{nil, {}}
	for _, a := range all {
		lists = append(lists, []api.Rat{a})
	}
	for step := 1; step < len(all); step++ {
		var l []api.Rat
		for i := range step + 2 {
			l = append(l, all[i*step%len(all)])
		}
		lists = append(lists, l, slices.Concat(l, l[:step]))
	}
	return append(lists, all)
}

// abs is a as a number of math/big, so that nothing here reckons as the package does.
func abs(a api.Nat) *big.Int {
	var l []byte
	for _, x := range slices.Backward(a) {
		l = binary.BigEndian.AppendUint32(l, uint32(x))
	}
	return new(big.Int).SetBytes(l)
}

// limbs is n, without its sign, as a number of api.
func limbs(n *big.Int) api.Nat {
	var a api.Nat
	for n = new(big.Int).Abs(n); n.Sign() != 0; n.Rsh(n, 32) {
		a = append(a, new(big.Int).And(n, big.NewInt(top)).Uint64())
	}
	return a
}

// from is n as a fraction of api.
func from(n *big.Rat) api.Rat { return parts(n.Sign() < 0, limbs(n.Num()), limbs(n.Denom())) }

// of is a, which may be, as a fraction of math/big.
func of(a api.Rat) *big.Rat {
	n := new(big.Rat).SetFrac(abs(a.Num.Abs), abs(a.Den))
	if a.Num.Neg {
		n.Neg(n)
	}
	return n
}

// equal tells whether both are the same, limb by limb.
func equal(a, b api.Rat) bool {
	return a.Num.Neg == b.Num.Neg && slices.Equal(a.Num.Abs, b.Num.Abs) && slices.Equal(a.Den, b.Den)
}

// is tells whether a is n, and may be: n has one such form alone.
func is(a api.Rat, n *big.Rat) bool { return equal(a, from(n)) }

// nothing tells whether a is the zero value.
func nothing(a api.Rat) bool { return !a.Num.Neg && a.Num.Abs == nil && a.Den == nil }

// summed is the sum of all by math/big.
func summed(l []api.Rat) *big.Rat {
	sum := new(big.Rat)
	for _, a := range l {
		sum.Add(sum, of(a))
	}
	return sum
}

// weighed is the sum of all weights by math/big.
func weighed(w []int) *big.Int {
	sum := new(big.Int)
	for _, weight := range w {
		sum.Add(sum, big.NewInt(int64(weight)))
	}
	return sum
}

// 10.1: Sum, Product, Least, Greatest, Bounds, Whole, Not, Sorted, Running.

func TestSumAndProduct(t *testing.T) {
	for _, c := range []struct {
		l            []api.Rat
		sum, product api.Rat
	}{
		{nil, frac(0, 1), frac(1, 1)},
		{[]api.Rat{}, frac(0, 1), frac(1, 1)},
		{[]api.Rat{frac(0, 1)}, frac(0, 1), frac(0, 1)},
		{[]api.Rat{frac(-3, 7)}, frac(-3, 7), frac(-3, 7)},
		{[]api.Rat{frac(1, 2), frac(1, 3), frac(1, 6)}, frac(1, 1), frac(1, 36)},
		{[]api.Rat{frac(2, 3), frac(-3, 4)}, frac(-1, 12), frac(-1, 2)},
		{[]api.Rat{frac(1, 2), frac(-1, 2)}, frac(0, 1), frac(-1, 4)},
		{[]api.Rat{frac(-1, 2), frac(-2, 3), frac(-3, 4)}, frac(-23, 12), frac(-1, 4)},
		{[]api.Rat{frac(5, 9), frac(0, 1), frac(4, 9)}, frac(1, 1), frac(0, 1)},
		{[]api.Rat{frac(top, 1), frac(1, 1)}, parts(false, api.Nat{0, 1}, api.Nat{1}), frac(top, 1)},
	} {
		if sum := Sum(c.l...); !equal(sum, c.sum) {
			t.Errorf("Sum(%v): %v, want %v", c.l, sum, c.sum)
		}
		if product := Product(c.l...); !equal(product, c.product) {
			t.Errorf("Product(%v): %v, want %v", c.l, product, c.product)
		}
	}
}

func TestSumProductAndRunningOfMany(t *testing.T) {
	for _, l := range some() {
		if sum := Sum(l...); !is(sum, summed(l)) {
			t.Fatalf("Sum(%v): %v", l, sum)
		}
		product := big.NewRat(1, 1)
		for _, a := range l {
			product.Mul(product, of(a))
		}
		if got := Product(l...); !is(got, product) {
			t.Fatalf("Product(%v): %v", l, got)
		}
		sums := Running(l...)
		if len(sums) != len(l) {
			t.Fatalf("Running(%v): %v", l, sums)
		}
		for i, sum := range sums {
			if !is(sum, summed(l[:i+1])) {
				t.Fatalf("Running(%v), at %d: %v", l, i, sum)
			}
		}
	}
}

func TestRunning(t *testing.T) {
	if l := Running(); len(l) != 0 {
		t.Errorf("Running(): %v", l)
	}
	l, want := Running(frac(1, 2), frac(1, 3), frac(-5, 6), frac(0, 1), frac(4, 2)), []api.Rat{frac(1, 2), frac(5, 6), frac(0, 1), frac(0, 1), frac(2, 1)}
	if !slices.EqualFunc(l, want, equal) {
		t.Errorf("Running: %v, want %v", l, want)
	}
}

// A list may have any number of members.
func TestLongLists(t *testing.T) {
	l, product, sum := make([]api.Rat, 3000), big.NewRat(1, 1), new(big.Rat)
	for i := range l {
		l[i] = frac(2*i-2999, i%60+1)
		product.Mul(product, of(l[i]))
		sum.Add(sum, of(l[i]))
	}
	if got := Sum(l...); !is(got, sum) {
		t.Errorf("Sum of 3000: %v, want %v", got, sum)
	}
	if !is(Product(l...), product) {
		t.Error("Product of 3000")
	}
	if sums := Running(l...); len(sums) != 3000 || !is(sums[2999], sum) {
		t.Errorf("Running of 3000: %d", len(sums))
	}
	if least, greatest, e := Bounds(l...); !is(least, big.NewRat(-2999, 1)) || !is(greatest, big.NewRat(2*2940-2999, 1)) || e != api.OK {
		t.Errorf("Bounds of 3000: %v, %v, %v", least, greatest, e)
	}
	w := make([]int, 3000)
	for i := range w {
		w[i] = i
	}
	if shares, e := Shares(w...); e != api.OK || len(shares) != 3000 || !is(shares[2999], big.NewRat(2999, 2999*1500)) || !Whole(shares...) {
		t.Errorf("Shares of 3000: %v", e)
	}
}

func TestLeastGreatestAndBounds(t *testing.T) {
	for _, c := range []struct {
		l               []api.Rat
		least, greatest api.Rat
		e               api.Errno
	}{
		{nil, api.Rat{}, api.Rat{}, api.ErrNone},
		{[]api.Rat{}, api.Rat{}, api.Rat{}, api.ErrNone},
		{[]api.Rat{frac(0, 1)}, frac(0, 1), frac(0, 1), api.OK},
		{[]api.Rat{frac(-5, 7)}, frac(-5, 7), frac(-5, 7), api.OK},
		{[]api.Rat{frac(1, 2), frac(1, 3), frac(2, 5)}, frac(1, 3), frac(1, 2), api.OK},
		{[]api.Rat{frac(1, 3), frac(2, 5), frac(1, 2)}, frac(1, 3), frac(1, 2), api.OK},
		{[]api.Rat{frac(2, 5), frac(1, 2), frac(1, 3)}, frac(1, 3), frac(1, 2), api.OK},
		{[]api.Rat{frac(-1, 2), frac(-1, 3), frac(-2, 5)}, frac(-1, 2), frac(-1, 3), api.OK},
		{[]api.Rat{frac(0, 1), frac(-1, 9), frac(1, 9)}, frac(-1, 9), frac(1, 9), api.OK},
		{[]api.Rat{frac(3, 4), frac(3, 4)}, frac(3, 4), frac(3, 4), api.OK},
		{[]api.Rat{frac(1, 1<<32), frac(1, top), frac(top, 1<<32), frac(top-1, top)}, frac(1, 1<<32), frac(top, 1<<32), api.OK},
	} {
		checkBounds(t, c.l, c.least, c.greatest, c.e)
	}
}

// checkBounds holds Least, Greatest and Bounds of l against what is wanted.
func checkBounds(t *testing.T, l []api.Rat, least, greatest api.Rat, want api.Errno) {
	t.Helper()
	a, e := Least(l...)
	b, f := Greatest(l...)
	c, d, g := Bounds(l...)
	if !equal(a, least) || !equal(b, greatest) || !equal(c, least) || !equal(d, greatest) || e != want || f != want || g != want {
		t.Errorf("of %v: Least %v, %v, Greatest %v, %v, Bounds %v, %v, %v, want %v, %v, %v", l, a, e, b, f, c, d, g, least, greatest, want)
	}
	if want != api.OK && !(nothing(a) && nothing(b) && nothing(c) && nothing(d)) {
		t.Errorf("of %v: %v, %v, %v, %v beside an error", l, a, b, c, d)
	}
}

func TestBoundsAndSortedOfMany(t *testing.T) {
	for _, l := range some() {
		rising := make([]*big.Rat, len(l))
		for i, a := range l {
			rising[i] = of(a)
		}
		slices.SortFunc(rising, (*big.Rat).Cmp)
		if sorted := Sorted(l...); !slices.EqualFunc(sorted, rising, is) {
			t.Fatalf("Sorted(%v): %v", l, sorted)
		}
		if len(l) > 0 {
			checkBounds(t, l, from(rising[0]), from(rising[len(l)-1]), api.OK)
		}
	}
}

func TestSorted(t *testing.T) {
	if l := Sorted(); len(l) != 0 {
		t.Errorf("Sorted(): %v", l)
	}
	want := []api.Rat{frac(-1, 2), frac(-1, 3), frac(0, 1), frac(1, 3), frac(2, 5), frac(2, 5), frac(1, 2), frac(4, 1)}
	for shift := range want {
		l := slices.Concat(want[shift:], want[:shift])
		for range 2 {
			if sorted := Sorted(l...); !slices.EqualFunc(sorted, want, equal) {
				t.Errorf("Sorted(%v): %v, want %v", l, sorted, want)
			}
			slices.Reverse(l)
		}
	}
}

func TestWhole(t *testing.T) {
	for _, c := range []struct {
		l    []api.Rat
		want bool
	}{
		{nil, false},
		{[]api.Rat{}, false},
		{[]api.Rat{frac(1, 1)}, true},
		{[]api.Rat{frac(0, 1)}, false},
		{[]api.Rat{frac(-1, 1)}, false},
		{[]api.Rat{frac(1, 2)}, false},
		{[]api.Rat{frac(2, 1)}, false},
		{[]api.Rat{frac(1, 1), frac(0, 1), {Num: api.Int{Abs: api.Nat{}}, Den: api.Nat{1}}}, true},
		{[]api.Rat{frac(1, 1), frac(1, 1)}, false},
		{[]api.Rat{frac(1, 2), frac(1, 3), frac(1, 6)}, true},
		{[]api.Rat{frac(1, 2), frac(1, 3), frac(1, 7)}, false},
		{[]api.Rat{frac(1, 2), frac(1, 3), frac(1, 5)}, false},
		{[]api.Rat{frac(3, 2), frac(-1, 2)}, false},
		{[]api.Rat{frac(-1, 2), frac(3, 2)}, false},
		{[]api.Rat{frac(2, 3), frac(2, 3), frac(-1, 3)}, false},
		{[]api.Rat{frac(-1, 3), frac(2, 3), frac(2, 3)}, false},
		{[]api.Rat{frac(1, 1), frac(1, 9), frac(-1, 9)}, false},
		{[]api.Rat{frac(2, 1), frac(-1, 1)}, false},
		{[]api.Rat{frac(top, 1<<32), frac(1, 1<<32)}, true},
		{[]api.Rat{frac(top, 1<<32), frac(1, 1<<32), frac(1, 1<<62)}, false},
		{slices.Repeat([]api.Rat{frac(1, 100)}, 100), true},
		{slices.Repeat([]api.Rat{frac(1, 100)}, 99), false},
		{slices.Repeat([]api.Rat{frac(1, 100)}, 101), false},
	} {
		if Whole(c.l...) != c.want {
			t.Errorf("Whole(%v): %v", c.l, !c.want)
		}
	}
}

func TestNot(t *testing.T) {
	for _, c := range []struct{ a, want api.Rat }{
		{frac(1, 4), frac(3, 4)}, {frac(0, 1), frac(1, 1)}, {frac(1, 1), frac(0, 1)}, {frac(2, 3), frac(1, 3)}, {frac(5, 2), frac(-3, 2)}, {frac(-1, 2), frac(3, 2)},
	} {
		if b := Not(c.a); !equal(b, c.want) {
			t.Errorf("Not(%v): %v, want %v", c.a, b, c.want)
		}
	}
	for _, a := range samples(20) {
		b := Not(a)
		if !is(b, new(big.Rat).Sub(big.NewRat(1, 1), of(a))) || !equal(Not(b), a) {
			t.Fatalf("Not(%v): %v", a, b)
		}
	}
}

// 10.2: Shares, Mean, Pow.

func TestShares(t *testing.T) {
	for _, c := range []struct {
		w    []int
		want []api.Rat
	}{
		{[]int{1, 3}, []api.Rat{frac(1, 4), frac(3, 4)}},
		{[]int{2, 0, 4}, []api.Rat{frac(1, 3), frac(0, 1), frac(2, 3)}},
		{[]int{7}, []api.Rat{frac(1, 1)}},
		{[]int{5, 5}, []api.Rat{frac(1, 2), frac(1, 2)}},
		{[]int{math.MaxInt, math.MaxInt}, []api.Rat{frac(1, 2), frac(1, 2)}},
		{[]int{math.MaxInt, 1}, []api.Rat{parts(false, api.Nat{top, 1<<31 - 1}, api.Nat{0, 1 << 31}), parts(false, api.Nat{1}, api.Nat{0, 1 << 31})}},
	} {
		if l, e := Shares(c.w...); !slices.EqualFunc(l, c.want, equal) || e != api.OK {
			t.Errorf("Shares(%v): %v, %v, want %v", c.w, l, e, c.want)
		}
	}
}

func TestSharesAndMeanOfMany(t *testing.T) {
	all := samples(20)
	for shift, c := range weighings {
		l := slices.Repeat(slices.Concat(all[shift:], all[:shift]), 3)[:len(c.w)]
		shares, e := Shares(c.w...)
		mean, f := Mean(c.w, l...)
		if e != c.e || f != c.e {
			t.Errorf("of %v: Shares %v, Mean %v, want %v", c.w, e, f, c.e)
		}
		if c.e != api.OK {
			if len(shares) != 0 || !nothing(mean) {
				t.Errorf("of %v: %v, %v beside an error", c.w, shares, mean)
			}
			continue
		}
		if len(shares) != len(c.w) {
			t.Fatalf("Shares(%v): %v", c.w, shares)
		}
		want := new(big.Rat)
		for i, share := range shares {
			part := new(big.Rat).SetFrac(big.NewInt(int64(c.w[i])), weighed(c.w))
			if !is(share, part) {
				t.Errorf("Shares(%v), at %d: %v, want %v", c.w, i, share, part)
			}
			want.Add(want, part.Mul(part, of(l[i])))
		}
		if !is(mean, want) {
			t.Errorf("Mean(%v, %v): %v, want %v", c.w, l, mean, want)
		}
	}
}

func TestMean(t *testing.T) {
	for _, c := range []struct {
		w    []int
		l    []api.Rat
		want api.Rat
		e    api.Errno
	}{
		{[]int{1, 3}, []api.Rat{frac(1, 2), frac(1, 6)}, frac(1, 4), api.OK},
		{[]int{1, 1}, []api.Rat{frac(1, 2), frac(1, 3)}, frac(5, 12), api.OK},
		{[]int{1, 1}, []api.Rat{frac(1, 2), frac(-1, 2)}, frac(0, 1), api.OK},
		{[]int{0, 5}, []api.Rat{frac(9, 2), frac(-1, 3)}, frac(-1, 3), api.OK},
		{[]int{math.MaxInt, math.MaxInt}, []api.Rat{frac(3, 1), frac(-1, 1)}, frac(1, 1), api.OK},
		{[]int{4}, []api.Rat{frac(0, 1)}, frac(0, 1), api.OK},
		{nil, nil, api.Rat{}, api.ErrNone},
		{[]int{}, []api.Rat{}, api.Rat{}, api.ErrNone},
		{nil, []api.Rat{frac(1, 2)}, api.Rat{}, api.ErrNone},
		{[]int{}, []api.Rat{frac(1, 2), frac(1, 3)}, api.Rat{}, api.ErrNone},
		{[]int{1}, nil, api.Rat{}, api.ErrArg},
		{[]int{1}, []api.Rat{frac(1, 2), frac(1, 6)}, api.Rat{}, api.ErrArg},
		{[]int{1, 1}, []api.Rat{frac(1, 2)}, api.Rat{}, api.ErrArg},
		{[]int{0}, nil, api.Rat{}, api.ErrArg}, // unlike lengths are told ahead of weights that are 0
		{[]int{0}, []api.Rat{frac(1, 2), frac(1, 6)}, api.Rat{}, api.ErrArg},
		{[]int{0, 0}, []api.Rat{frac(1, 2)}, api.Rat{}, api.ErrArg},
		{[]int{-1}, []api.Rat{frac(1, 2)}, api.Rat{}, api.ErrArg},
		{[]int{-1, 1}, []api.Rat{frac(1, 2), frac(1, 6)}, api.Rat{}, api.ErrArg},
		{[]int{-1, 0, 1}, []api.Rat{frac(1, 2)}, api.Rat{}, api.ErrArg},
		{[]int{0}, []api.Rat{frac(1, 2)}, api.Rat{}, api.ErrZero},
		{[]int{0, 0}, []api.Rat{frac(1, 2), frac(1, 6)}, api.Rat{}, api.ErrZero},
	} {
		a, e := Mean(c.w, c.l...)
		if !equal(a, c.want) || e != c.e || e != api.OK && !nothing(a) {
			t.Errorf("Mean(%v, %v): %v, %v, want %v, %v", c.w, c.l, a, e, c.want, c.e)
		}
	}
}

func TestPow(t *testing.T) {
	for _, c := range []struct {
		a    api.Rat
		n    int
		want api.Rat
		e    api.Errno
	}{
		{frac(2, 3), 0, frac(1, 1), api.OK},
		{frac(2, 3), 1, frac(2, 3), api.OK},
		{frac(2, 3), 2, frac(4, 9), api.OK},
		{frac(2, 3), 3, frac(8, 27), api.OK},
		{frac(2, 3), -1, frac(3, 2), api.OK},
		{frac(2, 3), -3, frac(27, 8), api.OK},
		{frac(-2, 3), 2, frac(4, 9), api.OK},
		{frac(-2, 3), 3, frac(-8, 27), api.OK},
		{frac(-2, 3), -2, frac(9, 4), api.OK},
		{frac(-2, 3), -3, frac(-27, 8), api.OK},
		{frac(-2, 3), 0, frac(1, 1), api.OK},
		{frac(0, 1), 0, frac(1, 1), api.OK},
		{frac(0, 1), 1, frac(0, 1), api.OK},
		{frac(0, 1), 2000, frac(0, 1), api.OK},
		{frac(1, 1), 2000, frac(1, 1), api.OK},
		{frac(1, 1), -2000, frac(1, 1), api.OK},
		{frac(-1, 1), 1999, frac(-1, 1), api.OK},
		{frac(-1, 1), -1999, frac(-1, 1), api.OK},
		{frac(-1, 1), -2000, frac(1, 1), api.OK},
		{frac(0, 1), -1, api.Rat{}, api.ErrZero},
		{parts(false, api.Nat{}, api.Nat{1}), -1, api.Rat{}, api.ErrZero},
		{frac(0, 1), -2000, api.Rat{}, api.ErrZero},
		{frac(0, 1), -2001, api.Rat{}, api.ErrArg}, // told ahead of what is 0
		{frac(0, 1), 2001, api.Rat{}, api.ErrArg},
		{frac(0, 1), math.MinInt, api.Rat{}, api.ErrArg},
		{frac(1, 1), 2001, api.Rat{}, api.ErrArg},
		{frac(1, 1), -2001, api.Rat{}, api.ErrArg},
		{frac(1, 2), math.MaxInt, api.Rat{}, api.ErrArg},
		{frac(1, 2), math.MinInt, api.Rat{}, api.ErrArg},
		{frac(1, 2), math.MinInt + 1, api.Rat{}, api.ErrArg},
	} {
		a, e := Pow(c.a, c.n)
		if !equal(a, c.want) || e != c.e || e != api.OK && !nothing(a) {
			t.Errorf("Pow(%v, %d): %v, %v, want %v, %v", c.a, c.n, a, e, c.want, c.e)
		}
	}
}

func TestPowOfMany(t *testing.T) {
	powers := []int{0, 1, 2, 3, 4, 5, 6, 7, 8, 9, 15, 16, 17, 31, 33, 100}
	for _, a := range samples(8) {
		for _, n := range powers {
			checkPow(t, a, n)
		}
	}
	for _, a := range []api.Rat{frac(2, 3), frac(-3, 2), frac(top, 1<<32), frac(1, -10)} {
		checkPow(t, a, 1999)
		checkPow(t, a, 2000)
	}
}

// checkPow holds Pow of a by n, and by -n, against math/big.
func checkPow(t *testing.T, a api.Rat, n int) {
	t.Helper()
	by, x := big.NewInt(int64(n)), of(a)
	want := new(big.Rat).SetFrac(new(big.Int).Exp(x.Num(), by, nil), new(big.Int).Exp(x.Denom(), by, nil))
	if b, e := Pow(a, n); !is(b, want) || e != api.OK {
		t.Fatalf("Pow(%v, %d): %v, %v", a, n, b, e)
	}
	if want.Sign() == 0 {
		if b, e := Pow(a, -n); !nothing(b) || e != api.ErrZero {
			t.Fatalf("Pow(%v, %d): %v, %v", a, -n, b, e)
		}
	} else if b, e := Pow(a, -n); !is(b, want.Inv(want)) || e != api.OK {
		t.Fatalf("Pow(%v, %d): %v, %v", a, -n, b, e)
	}
}

// The product of n of a is that of Product.
func TestPowIsAProduct(t *testing.T) {
	for _, a := range samples(5) {
		for n := range 20 {
			if p, e := Pow(a, n); !equal(p, Product(slices.Repeat([]api.Rat{a}, n)...)) || e != api.OK {
				t.Fatalf("Pow(%v, %d): %v, %v", a, n, p, e)
			}
		}
	}
}

// 10.3 (shares).

func TestSharesAreWhole(t *testing.T) {
	for _, c := range weighings {
		if shares, e := Shares(c.w...); e == api.OK && !Whole(shares...) {
			t.Errorf("Shares(%v): %v are not whole", c.w, shares)
		}
	}
	for a := range 12 {
		for b := range 12 {
			for c := range 12 {
				shares, e := Shares(a, b, c)
				if none := a+b+c == 0; none != (e == api.ErrZero) || Whole(shares...) == none {
					t.Errorf("Shares(%d, %d, %d): %v, %v", a, b, c, shares, e)
				}
			}
		}
	}
}

func TestAMeanLiesBetween(t *testing.T) {
	for _, l := range some() {
		for _, c := range weighings {
			if len(l) == 0 || c.e != api.OK {
				continue
			}
			w := slices.Repeat(c.w, len(l)/len(c.w)+1)[:len(l)]
			mean, e := Mean(w, l...)
			if weighed(w).Sign() == 0 {
				if e != api.ErrZero {
					t.Fatalf("Mean(%v, %v): %v", w, l, e)
				}
				continue
			}
			least, greatest, f := Bounds(l...)
			if e != api.OK || f != api.OK || of(mean).Cmp(of(least)) < 0 || of(mean).Cmp(of(greatest)) > 0 {
				t.Fatalf("Mean(%v, %v): %v, %v", w, l, mean, e)
			}
		}
	}
}

// P1, P2, and the rules.

// told are the answers of all calls at the same list, the same weights and the same power.
type told struct {
	fractions []api.Rat
	errors    [6]api.Errno
	whole     bool
}

func answers(l []api.Rat, w []int, n int) told {
	all := told{fractions: make([]api.Rat, 6), whole: Whole(l...)}
	all.fractions[0], all.errors[0] = Least(l...)
	all.fractions[1], all.errors[1] = Greatest(l...)
	all.fractions[2], all.fractions[3], all.errors[2] = Bounds(l...)
	all.fractions[4], all.errors[3] = Mean(w, l...)
	var shares []api.Rat
	shares, all.errors[4] = Shares(w...)
	if len(l) > 0 {
		all.fractions[5], all.errors[5] = Pow(l[0], n)
		all.fractions = append(all.fractions, Not(l[0]))
	}
	all.fractions = append(all.fractions, Sum(l...), Product(l...))
	all.fractions = slices.Concat(all.fractions, shares, Sorted(l...), Running(l...))
	return all
}

func same(a, b told) bool {
	return slices.EqualFunc(a.fractions, b.fractions, equal) && a.errors == b.errors && a.whole == b.whole
}

// Every call ends, and none panics, at fractions that may not be as well.
func TestEveryCallAnswers(t *testing.T) {
	all := append(samples(2), wrong...)
	lists := [][]api.Rat{nil, {}, wrong, all}
	for _, a := range all {
		lists = append(lists, []api.Rat{a})
		for _, b := range wrong {
			lists = append(lists, []api.Rat{a, b}, []api.Rat{b, a, b})
		}
	}
	for i, l := range lists {
		c := weighings[i%len(weighings)]
		for _, w := range [][]int{c.w, slices.Repeat([]int{1, 3}, len(l))[:len(l)]} {
			for _, n := range []int{-3, 0, 9} {
				if first := answers(l, w, n); !same(first, answers(l, w, n)) {
					t.Fatalf("at %v, %v, %d: twice asked, two answers", l, w, n)
				}
			}
		}
	}
	for _, a := range wrong {
		for _, n := range []int{-2001, -2000, -33, -2, -1, 1, 2, 33, 2000, 2001} {
			Pow(a, n)
		}
	}
}

// roomy is a with room behind, in which nothing may be laid.
func roomy(a api.Nat) api.Nat { return append(make(api.Nat, 0, len(a)+8), a...) }

// clean tells whether nothing lies in the room behind a.
func clean(a api.Nat) bool {
	return !slices.ContainsFunc(a[len(a):cap(a)], func(x uint64) bool { return x != 0 })
}

// apart is l with fractions of memory of their own, with room behind all lists.
func apart(l []api.Rat) []api.Rat {
	copies := make([]api.Rat, 0, len(l)+4)
	for _, a := range l {
		copies = append(copies, parts(a.Num.Neg, roomy(a.Num.Abs), roomy(a.Den)))
	}
	return copies
}

// spoil fills all of a list's memory.
func spoil(a api.Nat) {
	a = a[:cap(a)]
	for i := range a {
		a[i] = 77
	}
}

// What is handed in stays as it is, lists as well as what is in them.
func TestWhatIsHandedInIsNotChanged(t *testing.T) {
	for _, l := range append(some(), wrong) {
		given, w := apart(l), slices.Repeat([]int{2, 0, 5}, len(l)+1)[:len(l)]
		weights := append(make([]int, 0, len(w)+4), w...)
		answers(given, weights, -3)
		for _, a := range given {
			if !clean(a.Num.Abs) || !clean(a.Den) {
				t.Fatalf("%v: something lies behind %v", l, a)
			}
		}
		behind := given[len(given):cap(given)]
		if !slices.EqualFunc(given, l, equal) || slices.ContainsFunc(behind, func(a api.Rat) bool { return !nothing(a) }) {
			t.Fatalf("%v is changed to %v, %v", l, given, behind)
		}
		if more := weights[:cap(weights)]; !slices.Equal(weights, w) || slices.ContainsFunc(more[len(w):], func(n int) bool { return n != 0 }) {
			t.Fatalf("%v is changed to %v", w, more)
		}
	}
}

// What is handed out is memory of its own: it shares none with what is handed in, and no two lists of it share any.
func TestMemoryIsNotShared(t *testing.T) {
	for _, l := range [][]api.Rat{
		{frac(1, 2)}, {frac(0, 1)}, {frac(-5, 1), frac(-5, 1)}, {frac(0, 1), frac(0, 1), frac(1, 1)}, {frac(1, 2), frac(1, 3), frac(-5, 6)}, samples(2),
	} {
		for _, n := range []int{-1, 0, 1, 2} {
			given, w := apart(l), slices.Repeat([]int{1, 0, 2}, len(l))[:len(l)]
			all := answers(given, w, n).fractions
			lists := make([]api.Nat, 0, 2*len(all))
			for _, a := range all {
				lists = append(lists, a.Num.Abs, a.Den)
			}
			kept := make([]api.Nat, len(lists))
			for i, list := range lists {
				kept[i] = slices.Clone(list)
			}
			for i, list := range lists {
				spoil(list)
				for j, other := range lists[i+1:] {
					if !slices.Equal(other, kept[i+1+j]) {
						t.Fatalf("at %v, %d: list %d is list %d", l, n, i, i+1+j)
					}
				}
			}
			if !slices.EqualFunc(given, l, equal) {
				t.Fatalf("answers share memory with %v: it is %v", l, given)
			}
		}
	}
}

// What was handed out stays as it is, whatever becomes of what was handed in.
func TestAnswersAreNotChangedLater(t *testing.T) {
	for _, l := range some() {
		given, w := apart(l), slices.Repeat([]int{2, 0, 5}, len(l)+1)[:len(l)]
		all := answers(given, w, 1)
		want := answers(l, w, 1)
		for i := range given {
			spoil(given[i].Num.Abs)
			spoil(given[i].Den)
			given[i] = api.Rat{}
		}
		answers(apart(edges), w, 2)
		if !same(all, want) {
			t.Fatalf("of %v: %v is %v by now", l, want, all)
		}
	}
}

func TestRefusedCallsChangeNothing(t *testing.T) {
	nought := frac(0, 1)
	for _, l := range some() {
		w := slices.Repeat([]int{2, 0, 5}, len(l)+1)[:len(l)]
		before := answers(l, w, 3)
		_, least := Least()
		_, greatest := Greatest()
		_, _, bounds := Bounds()
		_, none := Shares()
		_, less := Shares(3, -1)
		_, zero := Shares(0)
		_, mean := Mean([]int{1, 2}, nought)
		_, far := Pow(nought, 2001)
		_, inverse := Pow(nought, -1)
		want := [...]api.Errno{api.ErrNone, api.ErrNone, api.ErrNone, api.ErrNone, api.ErrArg, api.ErrZero, api.ErrArg, api.ErrArg, api.ErrZero}
		if got := [...]api.Errno{least, greatest, bounds, none, less, zero, mean, far, inverse}; got != want {
			t.Fatalf("not refused: %v", got)
		}
		if !same(before, answers(l, w, 3)) {
			t.Fatalf("at %v: other answers behind a refused call", l)
		}
	}
}
