package vect

import (
	"math"
	"math/big"
	"slices"
	"testing"

	"trivium/api"
	"trivium/rat"
	"trivium/ratio"
)

// wrong are fractions that may not be.
var wrong = []api.Rat{
	{},
	{Den: api.Nat{}},
	{Den: api.Nat{0}},
	{Den: api.Nat{2, 0}},
	{Den: api.Nat{1 << 40}},
	{Num: api.Int{Neg: true}},
	{Num: api.Int{Neg: true}, Den: api.Nat{1}},
	{Num: api.Int{Abs: make(api.Nat, 4)}, Den: make(api.Nat, 4)},
	{Num: api.Int{Abs: api.Nat{1}}},
	{Num: api.Int{Neg: true, Abs: api.Nat{7}}, Den: api.Nat{}},
	{Num: api.Int{Abs: api.Nat{1}}, Den: api.Nat{0}},
	{Num: api.Int{Neg: true, Abs: api.Nat{3}}, Den: api.Nat{9}},
	{Num: api.Int{Abs: api.Nat{5, 0}}, Den: api.Nat{1}},
	{Num: api.Int{Abs: api.Nat{1 << 32}}, Den: api.Nat{1 << 32, 1}},
	{Num: api.Int{Neg: true, Abs: slices.Repeat(api.Nat{1<<64 - 1}, 7)}, Den: api.Nat{0, 1 << 40, 0}},
	{Num: api.Int{Abs: append(slices.Repeat(api.Nat{1<<32 - 1}, 9), 0, 0)}, Den: append(make(api.Nat, 40), 1<<40)},
}

// frac is n over d, which is not 0.
func frac(n, d int) api.Rat {
	a, _ := rat.Frac(n, d)
	return a
}

// ints is a row of whole numbers.
func ints(l ...int) []api.Rat {
	row := make([]api.Rat, len(l))
	for i, n := range l {
		row[i] = rat.Of(n)
	}
	return row
}

// of is a, which may be, as a fraction of math/big, by which the sums here are made.
func of(a api.Rat) *big.Rat {
	n, ok := new(big.Rat).SetString(ratio.Print(a))
	if !ok {
		panic("no fraction: " + ratio.Print(a))
	}
	return n
}

// is tells whether a is n, and may be.
func is(a api.Rat, n *big.Rat) bool { return rat.May(a) && of(a).Cmp(n) == 0 }

// nothing tells whether a is the zero value.
func nothing(a api.Rat) bool { return !a.Num.Neg && a.Num.Abs == nil && a.Den == nil }

// equal tells whether both rows have the same fractions, limb by limb.
func equal(a, b []api.Rat) bool { return slices.EqualFunc(a, b, rat.Same) }

// drawn is a row of n places, for each seed another one, always the same: noughts, small and great fractions, some of which come again.
func drawn(n, seed int) []api.Rat {
	row, x := make([]api.Rat, n), uint64(seed+1)*88172645463325252
	for i := range row {
		x ^= x << 13
		x ^= x >> 7
		x ^= x << 17
		number, lower := int(x>>8)%1000, int(x>>40)%60+1
		switch x % 6 {
		case 0:
			row[i] = rat.Of(0)
		case 1:
			row[i] = api.Rat{Num: api.Int{Abs: api.Nat{}}, Den: api.Nat{1}} // 0 as well
		case 2:
			row[i] = frac(int(x>>1), math.MaxInt-lower)
		case 3:
			row[i] = frac(-1, lower)
		default:
			row[i] = frac(number-500, lower)
		}
	}
	return row
}

// lengths of rows: about none, and beyond what Zero makes.
var lengths = []int{0, 1, 2, 3, 5, 8, 13, 40, 201}

// factors are what rows are scaled by.
var factors = []api.Rat{frac(0, 1), {Num: api.Int{Abs: api.Nat{}}, Den: api.Nat{1}}, frac(1, 1), frac(-1, 1), frac(2, 1), frac(-2, 3), frac(5, 7), frac(math.MaxInt, 1<<62), frac(1, math.MinInt)}

// 11.1: Zero, Unit, Add, Scale, Less.

func TestZero(t *testing.T) {
	for _, n := range []int{0, 1, 2, 7, 199, 200} {
		row, e := Zero(n)
		if e != api.OK || !equal(row, ints(make([]int, n)...)) {
			t.Errorf("Zero(%d): %v, %v", n, row, e)
		}
	}
	for _, n := range []int{-1, -200, math.MinInt, 201, 1000, math.MaxInt} {
		if row, e := Zero(n); e != api.ErrArg || len(row) != 0 {
			t.Errorf("Zero(%d): %v, %v", n, row, e)
		}
	}
}

func TestUnit(t *testing.T) {
	for _, n := range []int{1, 2, 3, 7, 200} {
		for i := range n {
			l := make([]int, n)
			l[i] = 1
			if row, e := Unit(n, i); e != api.OK || !equal(row, ints(l...)) {
				t.Errorf("Unit(%d, %d): %v, %v", n, i, row, e)
			}
		}
	}
	for _, c := range [][2]int{
		{0, 0}, {0, -1}, {0, 1}, {1, 1}, {1, -1}, {3, 3}, {3, 4}, {3, -1}, {200, 200}, {200, -1}, {3, math.MaxInt}, {3, math.MinInt},
		{-1, 0}, {-1, -1}, {-1, -2}, {math.MinInt, 0}, {201, 0}, {201, 200}, {201, 201}, {math.MaxInt, 5},
	} {
		if row, e := Unit(c[0], c[1]); e != api.ErrArg || len(row) != 0 {
			t.Errorf("Unit(%d, %d): %v, %v", c[0], c[1], row, e)
		}
	}
}

func TestAdd(t *testing.T) {
	for _, c := range []struct {
		l    [][]api.Rat
		want []api.Rat
		e    api.Errno
	}{
		{nil, nil, api.OK},
		{[][]api.Rat{}, nil, api.OK},
		{[][]api.Rat{nil}, nil, api.OK},
		{[][]api.Rat{nil, {}, nil}, nil, api.OK},
		{[][]api.Rat{ints(3, 0, -4)}, ints(3, 0, -4), api.OK},
		{[][]api.Rat{ints(1, 2), ints(3, 4), ints(-4, 0)}, ints(0, 6), api.OK},
		{[][]api.Rat{{frac(1, 2), frac(1, 3)}, {frac(1, 3), frac(-1, 3)}, {frac(1, 6), frac(0, 1)}}, ints(1, 0), api.OK},
		{[][]api.Rat{ints(1), ints(1, 2)}, nil, api.ErrShape},
		{[][]api.Rat{ints(1, 2), ints(1)}, nil, api.ErrShape},
		{[][]api.Rat{nil, ints(1)}, nil, api.ErrShape},
		{[][]api.Rat{ints(1), nil}, nil, api.ErrShape},
		{[][]api.Rat{ints(1, 2), ints(3, 4), ints(1)}, nil, api.ErrShape},
		{[][]api.Rat{ints(1, 2), ints(3), ints(1, 5)}, nil, api.ErrShape},
		{[][]api.Rat{ints(1), ints(3, 4), ints(1, 5)}, nil, api.ErrShape},
	} {
		if row, e := Add(c.l...); e != c.e || !equal(row, c.want) {
			t.Errorf("Add(%v): %v, %v, want %v, %v", c.l, row, e, c.want, c.e)
		}
	}
}

func TestAddOfMany(t *testing.T) {
	for _, n := range lengths {
		for count := range 7 {
			l, want := make([][]api.Rat, count+1), make([]*big.Rat, n)
			for i := range want {
				want[i] = new(big.Rat)
			}
			for j := range l {
				l[j] = drawn(n, 10*count+j)
				for i, a := range l[j] {
					want[i].Add(want[i], of(a))
				}
			}
			if row, e := Add(l...); e != api.OK || !slices.EqualFunc(row, want, is) {
				t.Fatalf("Add(%v): %v, %v", l, row, e)
			}
		}
	}
	rows := slices.Repeat([][]api.Rat{{frac(1, 2), frac(-1, 3)}}, 3000)
	if row, e := Add(rows...); e != api.OK || !equal(row, ints(1500, -1000)) {
		t.Errorf("Add of 3000: %v, %v", row, e)
	}
}

func TestScale(t *testing.T) {
	for _, c := range []struct {
		a    []api.Rat
		k    api.Rat
		want []api.Rat
	}{
		{nil, frac(3, 1), nil},
		{[]api.Rat{}, frac(3, 1), nil},
		{ints(1, -2), frac(3, 1), ints(3, -6)},
		{ints(1, -2, 0), frac(-1, 2), []api.Rat{frac(-1, 2), frac(1, 1), frac(0, 1)}},
		{[]api.Rat{frac(2, 3), frac(3, 2)}, frac(2, 3), []api.Rat{frac(4, 9), frac(1, 1)}},
		{[]api.Rat{frac(2, 3), frac(3, 2)}, frac(0, 1), ints(0, 0)},
		{[]api.Rat{frac(2, 3), frac(3, 2)}, frac(1, 1), []api.Rat{frac(2, 3), frac(3, 2)}},
	} {
		if row := Scale(c.a, c.k); !equal(row, c.want) {
			t.Errorf("Scale(%v, %v): %v, want %v", c.a, c.k, row, c.want)
		}
	}
}

func TestLess(t *testing.T) {
	for _, c := range []struct {
		a    []api.Rat
		k    api.Rat
		b    []api.Rat
		want []api.Rat
		e    api.Errno
	}{
		{nil, frac(2, 1), nil, nil, api.OK},
		{nil, frac(2, 1), []api.Rat{}, nil, api.OK},
		{ints(5, 5), frac(2, 1), ints(1, 2), ints(3, 1), api.OK},
		{ints(5, 5), frac(-2, 1), ints(1, 2), ints(7, 9), api.OK},
		{ints(5, -5), frac(0, 1), ints(1, 2), ints(5, -5), api.OK},
		{ints(5, 0), frac(2, 1), ints(0, 0), ints(5, 0), api.OK},
		{ints(0, 1), frac(1, 3), ints(1, 3), []api.Rat{frac(-1, 3), frac(0, 1)}, api.OK},
		{ints(1), frac(2, 1), ints(1, 2), nil, api.ErrShape},
		{ints(1, 2), frac(2, 1), ints(1), nil, api.ErrShape},
		{ints(1, 2), frac(0, 1), ints(1), nil, api.ErrShape},
		{nil, frac(2, 1), ints(1), nil, api.ErrShape},
		{ints(1), frac(2, 1), nil, nil, api.ErrShape},
	} {
		if row, e := Less(c.a, c.k, c.b); e != c.e || !equal(row, c.want) {
			t.Errorf("Less(%v, %v, %v): %v, %v, want %v, %v", c.a, c.k, c.b, row, e, c.want, c.e)
		}
	}
}

func TestScaleAndLessOfMany(t *testing.T) {
	for _, n := range lengths {
		for seed, k := range factors {
			a, b := drawn(n, seed), drawn(n, seed+100)
			scaled, rest := make([]*big.Rat, n), make([]*big.Rat, n)
			for i := range n {
				scaled[i] = new(big.Rat).Mul(of(a[i]), of(k))
				rest[i] = new(big.Rat).Sub(of(a[i]), new(big.Rat).Mul(of(k), of(b[i])))
			}
			if row := Scale(a, k); !slices.EqualFunc(row, scaled, is) {
				t.Fatalf("Scale(%v, %v): %v", a, k, row)
			}
			if row, e := Less(a, k, b); e != api.OK || !slices.EqualFunc(row, rest, is) {
				t.Fatalf("Less(%v, %v, %v): %v, %v", a, k, b, row, e)
			}
		}
	}
}

// 11.2: Dot, Same, Lead, Greatest.

func TestDot(t *testing.T) {
	for _, c := range []struct {
		a, b []api.Rat
		want api.Rat
		e    api.Errno
	}{
		{nil, nil, frac(0, 1), api.OK},
		{nil, []api.Rat{}, frac(0, 1), api.OK},
		{ints(1, 2), ints(3, 4), frac(11, 1), api.OK},
		{ints(1, 2, 3), ints(4, 5, 6), frac(32, 1), api.OK},
		{ints(1, -2), ints(2, 1), frac(0, 1), api.OK},
		{ints(0, 7, 0), ints(7, 0, 0), frac(0, 1), api.OK},
		{[]api.Rat{frac(1, 2), frac(1, 3)}, []api.Rat{frac(1, 2), frac(-3, 4)}, frac(0, 1), api.OK},
		{[]api.Rat{frac(2, 3)}, []api.Rat{frac(-3, 5)}, frac(-2, 5), api.OK},
		{ints(1), nil, api.Rat{}, api.ErrShape},
		{nil, ints(1), api.Rat{}, api.ErrShape},
		{ints(1, 2), ints(1), api.Rat{}, api.ErrShape},
		{ints(1, 2), ints(1, 2, 0), api.Rat{}, api.ErrShape},
	} {
		if a, e := Dot(c.a, c.b); e != c.e || !rat.Same(a, c.want) || e != api.OK && !nothing(a) {
			t.Errorf("Dot(%v, %v): %v, %v, want %v, %v", c.a, c.b, a, e, c.want, c.e)
		}
	}
}

func TestDotOfMany(t *testing.T) {
	for _, n := range lengths {
		for seed := range 12 {
			a, b, want := drawn(n, seed), drawn(n, seed+100), new(big.Rat)
			for i := range n {
				want.Add(want, new(big.Rat).Mul(of(a[i]), of(b[i])))
			}
			for range 2 {
				if dot, e := Dot(a, b); e != api.OK || !is(dot, want) {
					t.Fatalf("Dot(%v, %v): %v, %v", a, b, dot, e)
				}
				a, b = b, a
			}
		}
	}
}

// Dot with a unit is the place itself.
func TestDotWithUnit(t *testing.T) {
	for _, n := range []int{1, 2, 9, 200} {
		a := drawn(n, n)
		for i := range n {
			u, _ := Unit(n, i)
			if dot, e := Dot(a, u); e != api.OK || !rat.Same(dot, a[i]) {
				t.Fatalf("Dot(%v, %v): %v, %v", a, u, dot, e)
			}
		}
	}
}

func TestSame(t *testing.T) {
	for _, c := range []struct {
		a, b []api.Rat
		want bool
	}{
		{nil, nil, true},
		{nil, []api.Rat{}, true},
		{ints(1, 2, 3), ints(1, 2, 3), true},
		{ints(0, 0), []api.Rat{{Den: api.Nat{1}}, {Num: api.Int{Abs: api.Nat{}}, Den: api.Nat{1}}}, true},
		{nil, ints(0), false},
		{ints(1), ints(1, 1), false},
		{ints(1, 0), ints(1), false},
		{ints(1, 2, 3), ints(0, 2, 3), false},
		{ints(1, 2, 3), ints(1, 3, 3), false},
		{ints(1, 2, 3), ints(1, 2, -3), false},
		{ints(1, 2, 3), ints(3, 2, 1), false},
		{[]api.Rat{frac(1, 2)}, []api.Rat{frac(1, 3)}, false},
	} {
		if Same(c.a, c.b) != c.want || Same(c.b, c.a) != c.want {
			t.Errorf("Same(%v, %v): not %v", c.a, c.b, c.want)
		}
	}
}

func TestLead(t *testing.T) {
	empty := api.Rat{Num: api.Int{Abs: api.Nat{}}, Den: api.Nat{1}}
	for _, c := range []struct {
		a    []api.Rat
		want int
	}{
		{nil, 0}, {[]api.Rat{}, 0}, {ints(0), 1}, {ints(0, 0), 2}, {[]api.Rat{empty, rat.Of(0), empty}, 3},
		{ints(1), 0}, {ints(-1, 0), 0}, {ints(0, -1, 2), 1}, {[]api.Rat{rat.Of(0), empty, frac(1, 9), rat.Of(0)}, 2}, {ints(0, 0, 0, 1<<40), 3},
	} {
		if at := Lead(c.a); at != c.want {
			t.Errorf("Lead(%v): %d, want %d", c.a, at, c.want)
		}
	}
	for i := range 200 {
		if row, _ := Unit(200, i); Lead(row) != i {
			t.Errorf("Lead(%v): %d, want %d", row, Lead(row), i)
		}
	}
}

func TestGreatest(t *testing.T) {
	for _, c := range []struct {
		a    []api.Rat
		want int
		told bool
	}{
		{nil, 0, false},
		{[]api.Rat{}, 0, false},
		{ints(0), 0, true},
		{ints(-5), 0, true},
		{ints(1, 2, 3), 2, true},
		{ints(3, 2, 1), 0, true},
		{ints(1, 3, 2), 1, true},
		{ints(-3, -1, -2), 1, true},
		{ints(0, 0, 0), 0, true},
		{ints(1, 2, 2, 1, 2), 1, true},
		{ints(-1, 0, -1, 0), 1, true},
		{ints(-7, 3), 1, true}, // of the numbers, not of how far they are from 0
		{[]api.Rat{frac(1, 3), frac(2, 5), frac(3, 8), frac(2, 5)}, 1, true},
		{[]api.Rat{frac(-1, 2), frac(-1, 3)}, 1, true},
	} {
		if at, told := Greatest(c.a); at != c.want || told != c.told {
			t.Errorf("Greatest(%v): %d, %v, want %d, %v", c.a, at, told, c.want, c.told)
		}
	}
}

func TestGreatestOfMany(t *testing.T) {
	for _, n := range lengths[1:] {
		for seed := range 12 {
			half := drawn(n, seed)
			for _, a := range [][]api.Rat{half, slices.Concat(half, half)} {
				want := 0
				for i := range a {
					if of(a[i]).Cmp(of(a[want])) > 0 {
						want = i
					}
				}
				if at, told := Greatest(a); at != want || !told {
					t.Fatalf("Greatest(%v): %d, %v, want %d", a, at, told, want)
				}
			}
		}
	}
}

// 11.3 (linear).

// dot is Dot of two rows of one length.
func dot(t *testing.T, a, b []api.Rat) api.Rat {
	t.Helper()
	c, e := Dot(a, b)
	if e != api.OK {
		t.Fatalf("Dot(%v, %v): %v", a, b, e)
	}
	return c
}

func TestDotIsLinear(t *testing.T) {
	for _, n := range lengths {
		for seed, k := range factors {
			a, b, c, d := drawn(n, seed), drawn(n, seed+100), drawn(n, seed+200), drawn(n, seed+300)
			sum, e := Add(a, b, c)
			rest, f := Less(a, k, b)
			if e != api.OK || f != api.OK {
				t.Fatalf("at %v, %v, %v: %v, %v", a, b, c, e, f)
			}
			ad, bd, cd := dot(t, a, d), dot(t, b, d), dot(t, c, d)
			if !rat.Same(ad, dot(t, d, a)) {
				t.Fatalf("Dot(%v, %v): the order tells", a, d)
			}
			if !rat.Same(dot(t, sum, d), rat.Add(rat.Add(ad, bd), cd)) {
				t.Fatalf("at %v, %v, %v, %v: Dot of the sum is not the sum of Dots", a, b, c, d)
			}
			if !rat.Same(dot(t, Scale(a, k), d), rat.Mul(ad, k)) || !rat.Same(dot(t, a, Scale(d, k)), rat.Mul(ad, k)) {
				t.Fatalf("at %v, %v, %v: Dot of what is scaled is not scaled", a, k, d)
			}
			if !rat.Same(dot(t, rest, d), rat.Sub(ad, rat.Mul(k, bd))) {
				t.Fatalf("at %v, %v, %v, %v: Dot of what is taken off is not taken off", a, k, b, d)
			}
		}
	}
}

// P1, P2, and the rules.

// told are the answers of all calls at the same rows, the same factor and the same numbers.
type told struct {
	rows   [5][]api.Rat
	dot    api.Rat
	errors [5]api.Errno
	places [2]int
	yes    [2]bool
}

func answers(a, b []api.Rat, k api.Rat, n, i int) told {
	var all told
	all.rows[0], all.errors[0] = Zero(n)
	all.rows[1], all.errors[1] = Unit(n, i)
	all.rows[2], all.errors[2] = Add(a, b)
	all.rows[3], all.errors[3] = Less(a, k, b)
	all.rows[4] = Scale(a, k)
	all.dot, all.errors[4] = Dot(a, b)
	all.places[0] = Lead(a)
	all.places[1], all.yes[0] = Greatest(a)
	all.yes[1] = Same(a, b)
	return all
}

func same(a, b told) bool {
	return slices.EqualFunc(a.rows[:], b.rows[:], equal) && rat.Same(a.dot, b.dot) && a.errors == b.errors && a.places == b.places && a.yes == b.yes
}

// lists are all lists of limbs in these answers.
func (a told) lists() []api.Nat {
	l := []api.Nat{a.dot.Num.Abs, a.dot.Den}
	for _, row := range a.rows {
		for _, x := range row {
			l = append(l, x.Num.Abs, x.Den)
		}
	}
	return l
}

// Every call ends, and none panics, at fractions that may not be as well; with an error all else is nothing.
func TestEveryCallAnswers(t *testing.T) {
	rows := [][]api.Rat{nil, {}, wrong, slices.Concat(wrong[5:], wrong[:5]), drawn(len(wrong), 3), ints(1, 2), {{}, {}}}
	for _, a := range wrong {
		rows = append(rows, []api.Rat{a}, []api.Rat{rat.Of(3), a})
	}
	for _, a := range rows {
		for _, b := range rows {
			for _, k := range slices.Concat(factors, wrong) {
				first := answers(a, b, k, len(a), len(b)-1)
				if !same(first, answers(a, b, k, len(a), len(b)-1)) {
					t.Fatalf("at %v, %v, %v: twice asked, two answers", a, b, k)
				}
				for i, e := range first.errors[:4] {
					if e != api.OK && len(first.rows[i]) != 0 {
						t.Fatalf("at %v, %v, %v: %v beside %v", a, b, k, first.rows[i], e)
					}
				}
				if unlike := len(a) != len(b); unlike != (first.errors[4] == api.ErrShape) || unlike && !nothing(first.dot) {
					t.Fatalf("Dot(%v, %v): %v, %v", a, b, first.dot, first.errors[4])
				}
			}
		}
	}
}

// roomy is a with room behind, in which nothing may be laid.
func roomy(a api.Nat) api.Nat { return append(make(api.Nat, 0, len(a)+8), a...) }

// fresh is a in memory of its own, with room behind all lists.
func fresh(a api.Rat) api.Rat {
	return api.Rat{Num: api.Int{Neg: a.Num.Neg, Abs: roomy(a.Num.Abs)}, Den: roomy(a.Den)}
}

// apart is a row of memory of its own, with room behind all lists.
func apart(row []api.Rat) []api.Rat {
	copies := make([]api.Rat, 0, len(row)+4)
	for _, a := range row {
		copies = append(copies, fresh(a))
	}
	return copies
}

// clean tells whether nothing lies in the room behind a row and its fractions.
func clean(row []api.Rat) bool {
	for _, a := range row {
		for _, list := range []api.Nat{a.Num.Abs, a.Den} {
			if slices.ContainsFunc(list[len(list):cap(list)], func(x uint64) bool { return x != 0 }) {
				return false
			}
		}
	}
	return !slices.ContainsFunc(row[len(row):cap(row)], func(a api.Rat) bool { return !nothing(a) })
}

// spoil fills all of a list's memory.
func spoil(a api.Nat) {
	a = a[:cap(a)]
	for i := range a {
		a[i] = 77
	}
}

func TestWhatIsHandedInIsNotChanged(t *testing.T) {
	for _, n := range lengths {
		for seed, k := range slices.Concat(factors, wrong) {
			a, b := drawn(n, seed), slices.Concat(wrong, drawn(n, seed+100))[:n]
			c, d, m := apart(a), apart(b), fresh(k)
			answers(c, d, m, n, 0)
			answers(d, c, m, n, 0)
			l := [][]api.Rat{c, d, c}
			Add(l...)
			if !equal(a, c) || !equal(b, d) || !rat.Same(k, m) || !clean(c) || !clean(d) || !clean([]api.Rat{m}) || !equal(l[0], a) || !equal(l[1], b) || !equal(l[2], a) {
				t.Fatalf("%v, %v, %v are changed to %v, %v, %v", a, k, b, c, m, d)
			}
		}
	}
}

// What is handed out is memory of its own: it shares none with what is handed in, and no two lists of it share any.
func TestMemoryIsNotShared(t *testing.T) {
	for _, n := range []int{1, 2, 5, 20} {
		for seed, k := range factors {
			a, b := drawn(n, seed), drawn(n, seed+100)
			c, d, m := apart(a), apart(b), fresh(k)
			all := answers(c, d, m, n, n-1)
			single, _ := Add(c)
			all.rows[0] = slices.Concat(all.rows[0], single)
			lists := all.lists()
			kept := make([]api.Nat, len(lists))
			for i, list := range lists {
				kept[i] = slices.Clone(list)
			}
			for i, list := range lists {
				spoil(list)
				for j, other := range lists[i+1:] {
					if !slices.Equal(other, kept[i+1+j]) {
						t.Fatalf("at %v, %v, %v: list %d is list %d", a, k, b, i, i+1+j)
					}
				}
			}
			for _, row := range append(all.rows[:], single) {
				clear(row[:cap(row)])
			}
			if !equal(a, c) || !equal(b, d) || !rat.Same(k, m) {
				t.Fatalf("answers share memory with %v, %v, %v", a, k, b)
			}
		}
	}
}

// What was handed out stays as it is, whatever becomes of what was handed in.
func TestAnswersAreNotChangedLater(t *testing.T) {
	for _, n := range lengths {
		for seed, k := range factors {
			a, b := drawn(n, seed), drawn(n, seed+100)
			c, d, m := apart(a), apart(b), fresh(k)
			all, want := answers(c, d, m, 3, 1), answers(a, b, k, 3, 1)
			for _, x := range slices.Concat(c, d, []api.Rat{m}) {
				spoil(x.Num.Abs)
				spoil(x.Den)
			}
			clear(c)
			clear(d)
			answers(drawn(n, 7), drawn(n, 8), frac(3, 4), 3, 1)
			if !same(all, want) {
				t.Fatalf("at %v, %v, %v: %v is %v by now", a, k, b, want, all)
			}
		}
	}
}

// One row handed in twice is no worse than two.
func TestARowByItself(t *testing.T) {
	for _, n := range lengths {
		a := drawn(n, n)
		if !same(answers(a, a, frac(1, 3), 3, 1), answers(a, apart(a), frac(1, 3), 3, 1)) {
			t.Fatalf("%v by itself", a)
		}
		rest, e := Less(a, frac(1, 1), a)
		if e != api.OK || Lead(rest) != n {
			t.Fatalf("%v less itself: %v, %v", a, rest, e)
		}
	}
}

func TestRefusedCallsChangeNothing(t *testing.T) {
	for _, n := range lengths {
		a, b, k := drawn(n, 1), drawn(n, 2), frac(2, 3)
		before := answers(a, b, k, 3, 1)
		_, zero := Zero(-1)
		_, unit := Unit(3, 3)
		_, sum := Add(a, b, ints(make([]int, n+1)...))
		_, rest := Less(append(slices.Clone(a), k), k, b)
		_, product := Dot(a, append(slices.Clone(b), k))
		want := [...]api.Errno{api.ErrArg, api.ErrArg, api.ErrShape, api.ErrShape, api.ErrShape}
		if got := [...]api.Errno{zero, unit, sum, rest, product}; got != want {
			t.Fatalf("not refused: %v", got)
		}
		if !same(before, answers(a, b, k, 3, 1)) {
			t.Fatalf("at %v, %v: other answers behind a refused call", a, b)
		}
	}
}
