package matrix

import (
	"math"
	"math/big"
	"slices"
	"testing"

	"trivium/api"
	"trivium/rat"
	"trivium/ratio"
	"trivium/vect"
)

// wrong are fractions that may not be.
var wrong = []api.Rat{
	{},
	{Den: api.Nat{}},
	{Den: api.Nat{0}},
	{Den: api.Nat{2, 0}},
	{Num: api.Int{Neg: true}, Den: api.Nat{1}},
	{Num: api.Int{Abs: api.Nat{1}}},
	{Num: api.Int{Neg: true, Abs: api.Nat{7}}, Den: api.Nat{}},
	{Num: api.Int{Abs: api.Nat{1}}, Den: api.Nat{0}},
	{Num: api.Int{Neg: true, Abs: api.Nat{3}}, Den: api.Nat{9}},
	{Num: api.Int{Abs: api.Nat{5, 0}}, Den: api.Nat{1}},
	{Num: api.Int{Abs: api.Nat{1 << 32}}, Den: api.Nat{1 << 32, 1}},
	{Num: api.Int{Neg: true, Abs: slices.Repeat(api.Nat{1<<64 - 1}, 7)}, Den: api.Nat{0, 1 << 40, 0}},
}

// frac is n over d, which is not 0.
func frac(n, d int) api.Rat {
	a, _ := rat.Frac(n, d)
	return a
}

// ints is a row of whole numbers.
func ints(l ...int) []api.Rat {
	row := make([]api.Rat, len(l))
	for i, n := range l {
		row[i] = rat.Of(n)
	}
	return row
}

// table is a table of these rows.
func table(rows ...[]api.Rat) [][]api.Rat { return rows }

// filled is a table of so many rows, and places a row, with n in each.
func filled(rows, places, n int) [][]api.Rat {
	t := make([][]api.Rat, rows)
	for i := range t {
		t[i] = ints(slices.Repeat([]int{n}, places)...)
	}
	return t
}

// of is a, which may be, as a fraction of math/big, by which the sums here are made.
func of(a api.Rat) *big.Rat {
	n, ok := new(big.Rat).SetString(ratio.Print(a))
	if !ok {
		panic("no fraction: " + ratio.Print(a))
	}
	return n
}

// nothing tells whether a is the zero value.
func nothing(a api.Rat) bool { return !a.Num.Neg && a.Num.Abs == nil && a.Den == nil }

// equalRows and equal tell whether both have the same fractions, limb by limb, in as many rows.
func equalRows(a, b []api.Rat) bool { return slices.EqualFunc(a, b, rat.Same) }
func equal(a, b [][]api.Rat) bool   { return slices.EqualFunc(a, b, equalRows) }

// drawn is a table of so many rows, and places a row, for each seed another one, always the same: noughts, small and great fractions.
func drawn(rows, places, seed int) [][]api.Rat {
	t, x := make([][]api.Rat, rows), uint64(seed+1)*88172645463325252
	for i := range t {
		t[i] = make([]api.Rat, places)
		for j := range t[i] {
			x ^= x << 13
			x ^= x >> 7
			x ^= x << 17
			number, lower := int(x>>8)%1000, int(x>>40)%60+1
			switch x % 5 {
			case 0:
				t[i][j] = rat.Of(0)
			case 1:
				t[i][j] = api.Rat{Num: api.Int{Abs: api.Nat{}}, Den: api.Nat{1}} // 0 as well
			case 2:
				t[i][j] = frac(int(x>>1), math.MaxInt-lower)
			default:
				t[i][j] = frac(number-500, lower)
			}
		}
	}
	return t
}

// sizes of tables that are drawn: rows, and places a row.
var sizes = [][2]int{{0, 0}, {1, 0}, {4, 0}, {1, 1}, {1, 5}, {5, 1}, {2, 2}, {2, 3}, {3, 2}, {4, 4}, {7, 3}, {3, 11}, {9, 9}}

// squares are how many rows, and places a row, tables have that may be multiplied in each order.
var squares = []int{0, 1, 2, 3, 5, 8}

// mayNot are tables that may not be, and mays such that may just be.
func mayNot() [][][]api.Rat {
	return [][][]api.Rat{
		table(ints(1), ints(1, 2)),
		table(ints(1, 2), ints(1)),
		table(nil, ints(1)),
		table(ints(1), nil),
		table(ints(1), ints(2), nil),
		table(ints(1), nil, ints(2)),
		table(ints(1, 2), ints(1, 2, 3), ints(1)),
		append(filled(199, 2, 1), ints(1)),
		filled(201, 1, 1),
		filled(201, 0, 0),
		filled(1, 201, 1),
		filled(1000, 1, 1),
		filled(2, 1000, 1),
		filled(201, 201, 0),
	}
}

func mays() [][][]api.Rat {
	return [][][]api.Rat{
		nil, {}, {nil}, {{}, nil, {}}, filled(200, 0, 0), filled(1, 1, 1), filled(1, 200, 1), filled(200, 1, 1), filled(200, 200, 1), table(ints(1, 2), ints(3, 4)),
	}
}

// 12.1: Check, Size, Ident, Same, Column.

func TestCheck(t *testing.T) {
	for _, a := range mays() {
		if e := Check(a); e != api.OK {
			t.Errorf("Check(%v): %v", a, e)
		}
	}
	for _, a := range mayNot() {
		if e := Check(a); e != api.ErrShape {
			t.Errorf("Check(%v): %v", a, e)
		}
	}
}

func TestSize(t *testing.T) {
	for _, c := range []struct {
		t            [][]api.Rat
		rows, places int
	}{
		{nil, 0, 0},
		{[][]api.Rat{}, 0, 0},
		{table(nil), 1, 0},
		{table(nil, nil, nil), 3, 0},
		{table(ints(1, 2)), 1, 2},
		{table(ints(1), ints(2)), 2, 1},
		{table(ints(1, 2, 3), ints(2, 3, 4)), 2, 3},
		{table(ints(1, 2), ints(2, 3, 4), nil), 3, 2}, // one that may not be
		{table(nil, ints(1)), 2, 0},
		{filled(300, 400, 1), 300, 400},
	} {
		if rows, places := Size(c.t); rows != c.rows || places != c.places {
			t.Errorf("Size(%v): %d, %d, want %d, %d", c.t, rows, places, c.rows, c.places)
		}
	}
}

func TestIdent(t *testing.T) {
	for _, n := range []int{0, 1, 2, 3, 17, 199, 200} {
		a, e := Ident(n)
		if e != api.OK || len(a) != n {
			t.Fatalf("Ident(%d): %v, %v", n, a, e)
		}
		for i, row := range a {
			if unit, _ := vect.Unit(n, i); !equalRows(row, unit) {
				t.Errorf("Ident(%d), row %d: %v", n, i, row)
			}
		}
	}
	for _, n := range []int{-1, -200, math.MinInt, 201, 1000, math.MaxInt} {
		if a, e := Ident(n); e != api.ErrArg || len(a) != 0 {
			t.Errorf("Ident(%d): %v, %v", n, a, e)
		}
	}
}

func TestSame(t *testing.T) {
	for _, c := range []struct {
		a, b [][]api.Rat
		want bool
	}{
		{nil, nil, true},
		{nil, [][]api.Rat{}, true},
		{table(nil), table([]api.Rat{}), true},
		{table(ints(1, 2), ints(3, 4)), table(ints(1, 2), ints(3, 4)), true},
		{table(ints(1, 2), ints(3)), table(ints(1, 2), ints(3)), true},
		{table(ints(0)), table([]api.Rat{{Num: api.Int{Abs: api.Nat{}}, Den: api.Nat{1}}}), true},
		{filled(201, 201, 3), filled(201, 201, 3), true},
		{nil, table(nil), false},
		{table(nil), table(nil, nil), false},
		{table(ints(1)), table(ints(1), ints(1)), false},
		{table(ints(1, 2)), table(ints(1), ints(2)), false},
		{table(ints(1, 2), ints(3, 4)), table(ints(1, 2), ints(3, 5)), false},
		{table(ints(1, 2), ints(3, 4)), table(ints(0, 2), ints(3, 4)), false},
		{table(ints(1, 2), ints(3, 4)), table(ints(3, 4), ints(1, 2)), false},
		{table(ints(1, 2), ints(3, 4)), table(ints(1, 3), ints(2, 4)), false},
		{table(ints(1, 2), ints(3, 4)), table(ints(1, 2), ints(3)), false},
		{table(ints(2)), table(ints(-2)), false},
		{table([]api.Rat{frac(1, 2)}), table([]api.Rat{frac(1, 3)}), false},
	} {
		if Same(c.a, c.b) != c.want || Same(c.b, c.a) != c.want {
			t.Errorf("Same(%v, %v): not %v", c.a, c.b, c.want)
		}
	}
}

func TestColumn(t *testing.T) {
	for _, v := range [][]api.Rat{nil, {}, ints(0), ints(5, 6), {frac(1, 2), frac(-3, 4), frac(0, 1)}, ints(slices.Repeat([]int{9, 7, -3}, 100)...)} {
		a := Column(v)
		if len(a) != len(v) {
			t.Errorf("Column(%v): %v", v, a)
			continue
		}
		for i, row := range a {
			if !equalRows(row, v[i:i+1]) {
				t.Errorf("Column(%v), row %d: %v", v, i, row)
			}
		}
	}
}

// 12.2: Add, Mul, Apply, Turn, Beside.

func TestAdd(t *testing.T) {
	for _, c := range []struct {
		a, b, want [][]api.Rat
		e          api.Errno
	}{
		{nil, nil, nil, api.OK},
		{nil, [][]api.Rat{}, nil, api.OK},
		{table(nil, nil), table(nil, []api.Rat{}), table(nil, nil), api.OK},
		{table(ints(1, 2), ints(3, 4)), table(ints(5, 0), ints(-3, 1)), table(ints(6, 2), ints(0, 5)), api.OK},
		{table([]api.Rat{frac(1, 2), frac(1, 3)}), table([]api.Rat{frac(1, 2), frac(1, 6)}), table([]api.Rat{frac(1, 1), frac(1, 2)}), api.OK},
		{filled(200, 200, 1), filled(200, 200, 2), filled(200, 200, 3), api.OK},
		{nil, table(nil), nil, api.ErrShape},
		{table(nil), nil, nil, api.ErrShape},
		{table(nil), table(nil, nil), nil, api.ErrShape},
		{table(ints(1)), table(nil), nil, api.ErrShape},
		{table(ints(1)), table(ints(1, 2)), nil, api.ErrShape},
		{table(ints(1, 2)), table(ints(1)), nil, api.ErrShape},
		{table(ints(1, 2)), table(ints(1), ints(2)), nil, api.ErrShape},
		{table(ints(1), ints(2)), table(ints(1)), nil, api.ErrShape},
		{table(ints(1), ints(2)), table(ints(1), ints(2), ints(3)), nil, api.ErrShape},
	} {
		if a, e := Add(c.a, c.b); e != c.e || !equal(a, c.want) {
			t.Errorf("Add(%v, %v): %v, %v, want %v, %v", c.a, c.b, a, e, c.want, c.e)
		}
	}
	for _, a := range mayNot() {
		for _, pair := range [][2][][]api.Rat{{a, a}, {a, filled(len(a), len(a[0]), 0)}, {filled(len(a), len(a[0]), 0), a}} {
			if sum, e := Add(pair[0], pair[1]); e != api.ErrShape || len(sum) != 0 {
				t.Errorf("Add(%v, %v): %v, %v", pair[0], pair[1], sum, e)
			}
		}
	}
}

func TestAddOfMany(t *testing.T) {
	for seed, s := range sizes {
		a, b := drawn(s[0], s[1], seed), drawn(s[0], s[1], seed+100)
		sum, e := Add(a, b)
		if e != api.OK || len(sum) != s[0] {
			t.Fatalf("Add(%v, %v): %v, %v", a, b, sum, e)
		}
		for i, row := range sum {
			for j, x := range row {
				if len(row) != s[1] || !rat.May(x) || of(x).Cmp(new(big.Rat).Add(of(a[i][j]), of(b[i][j]))) != 0 {
					t.Fatalf("Add(%v, %v): %v", a, b, sum)
				}
			}
		}
	}
}

func TestMul(t *testing.T) {
	a, b := table(ints(1, 2), ints(3, 4)), table(ints(0, 1), ints(0, 0))
	for _, c := range []struct {
		l    [][][]api.Rat
		want [][]api.Rat
		e    api.Errno
	}{
		{[][][]api.Rat{b, b}, filled(2, 2, 0), api.OK},
		{[][][]api.Rat{a, a}, table(ints(7, 10), ints(15, 22)), api.OK},
		{[][][]api.Rat{a, b}, table(ints(0, 1), ints(0, 3)), api.OK},
		{[][][]api.Rat{b, a}, table(ints(3, 4), ints(0, 0)), api.OK},
		{[][][]api.Rat{a, b, a}, table(ints(3, 4), ints(9, 12)), api.OK},
		{[][][]api.Rat{a}, a, api.OK},
		{[][][]api.Rat{nil}, nil, api.OK},
		{[][][]api.Rat{nil, nil, {}}, nil, api.OK},
		{[][][]api.Rat{{nil, nil}}, table(nil, nil), api.OK},
		{[][][]api.Rat{{nil, nil}, nil}, table(nil, nil), api.OK},
		{[][][]api.Rat{a, {nil, nil}}, table(nil, nil), api.OK},
		{[][][]api.Rat{a, {nil, nil}, nil, nil}, table(nil, nil), api.OK},
		{[][][]api.Rat{{ints(1, 2, 3)}, {ints(4), ints(5), ints(6)}}, table(ints(32)), api.OK},
		{[][][]api.Rat{{ints(4), ints(5)}, {ints(1, 2, 3)}}, table(ints(4, 8, 12), ints(5, 10, 15)), api.OK},
		{[][][]api.Rat{{{frac(1, 2), frac(1, 3)}}, {{frac(1, 2)}, {frac(-3, 4)}}}, table(ints(0)), api.OK},
		{[][][]api.Rat{filled(1, 200, 1), filled(200, 1, 2), filled(1, 3, 1)}, filled(1, 3, 400), api.OK},
		{nil, nil, api.ErrShape},
		{[][][]api.Rat{}, nil, api.ErrShape},
		{[][][]api.Rat{a, nil}, nil, api.ErrShape},
		{[][][]api.Rat{nil, a}, nil, api.ErrShape},
		{[][][]api.Rat{nil, {nil}}, nil, api.ErrShape},
		{[][][]api.Rat{{nil}, {nil}}, nil, api.ErrShape},
		{[][][]api.Rat{a, {ints(1, 2)}}, nil, api.ErrShape},
		{[][][]api.Rat{{ints(1, 2)}, {ints(1, 2)}}, nil, api.ErrShape},
		{[][][]api.Rat{a, {ints(1), ints(2)}, a}, nil, api.ErrShape},
		{[][][]api.Rat{a, {ints(1, 2), ints(2, 3), ints(3, 4)}, a}, nil, api.ErrShape},
		{[][][]api.Rat{{ints(1), ints(2)}, a, a}, nil, api.ErrShape},
	} {
		if p, e := Mul(c.l...); e != c.e || !equal(p, c.want) {
			t.Errorf("Mul(%v): %v, %v, want %v, %v", c.l, p, e, c.want, c.e)
		}
	}
}

func TestMulOfWhatMayNotBe(t *testing.T) {
	for _, a := range mayNot() {
		_, places := Size(a)
		fits, ahead := filled(places, 2, 1), filled(2, len(a), 1)
		for _, l := range [][][][]api.Rat{{a}, {a, fits}, {ahead, a}, {ahead, a, fits}, {filled(1, 2, 1), ahead, a}} {
			if p, e := Mul(l...); e != api.ErrShape || len(p) != 0 {
				t.Errorf("Mul(%v): %v, %v", l, p, e)
			}
		}
	}
}

// multiplied is a times b, whose rows have n places, by math/big.
func multiplied(a, b [][]api.Rat, n int) [][]*big.Rat {
	rows := make([][]*big.Rat, len(a))
	for i, row := range a {
		for k := range n {
			sum := new(big.Rat)
			for j, x := range row {
				sum.Add(sum, new(big.Rat).Mul(of(x), of(b[j][k])))
			}
			rows[i] = append(rows[i], sum)
		}
	}
	return rows
}

// holds tells whether t, whose fractions may be, are these numbers.
func holds(t [][]api.Rat, numbers [][]*big.Rat) bool {
	return slices.EqualFunc(t, numbers, func(row []api.Rat, l []*big.Rat) bool {
		return slices.EqualFunc(row, l, func(a api.Rat, n *big.Rat) bool { return rat.May(a) && of(a).Cmp(n) == 0 })
	})
}

func TestMulAndApplyOfMany(t *testing.T) {
	for seed, s := range sizes {
		for _, n := range []int{0, 1, 2, 6} {
			if s[1] == 0 {
				n = 0 // a table without rows has no places
			}
			a, b := drawn(s[0], s[1], seed), drawn(s[1], n, seed+100)
			want := multiplied(a, b, n)
			if p, e := Mul(a, b); e != api.OK || !holds(p, want) {
				t.Fatalf("Mul(%v, %v): %v, %v", a, b, p, e)
			}
			if n != 1 {
				continue
			}
			v, _ := Turn(b)
			if w, e := Apply(a, v[0]); e != api.OK || !holds(Column(w), want) {
				t.Fatalf("Apply(%v, %v): %v, %v", a, v[0], w, e)
			}
		}
	}
}

func TestApply(t *testing.T) {
	for _, c := range []struct {
		t       [][]api.Rat
		v, want []api.Rat
		e       api.Errno
	}{
		{nil, nil, nil, api.OK},
		{nil, []api.Rat{}, nil, api.OK},
		{table(nil, nil), nil, ints(0, 0), api.OK},
		{table(ints(1, 2), ints(3, 4)), ints(1, -1), ints(-1, -1), api.OK},
		{table(ints(1, 2, 3)), ints(4, 5, 6), ints(32), api.OK},
		{table(ints(2), ints(0), ints(-3)), []api.Rat{frac(1, 6)}, []api.Rat{frac(1, 3), frac(0, 1), frac(-1, 2)}, api.OK},
		{filled(200, 200, 1), ints(slices.Repeat([]int{3}, 200)...), ints(slices.Repeat([]int{600}, 200)...), api.OK},
		{nil, ints(1), nil, api.ErrShape},
		{table(nil), ints(1), nil, api.ErrShape},
		{table(ints(1)), nil, nil, api.ErrShape},
		{table(ints(1, 2)), ints(1), nil, api.ErrShape},
		{table(ints(1, 2)), ints(1, 2, 3), nil, api.ErrShape},
		{table(ints(1), ints(2)), ints(1, 2), nil, api.ErrShape},
	} {
		if v, e := Apply(c.t, c.v); e != c.e || !equalRows(v, c.want) {
			t.Errorf("Apply(%v, %v): %v, %v, want %v, %v", c.t, c.v, v, e, c.want, c.e)
		}
	}
	for _, a := range mayNot() {
		if v, e := Apply(a, a[0]); e != api.ErrShape || len(v) != 0 {
			t.Errorf("Apply(%v, %v): %v, %v", a, a[0], v, e)
		}
	}
}

func TestTurn(t *testing.T) {
	for _, c := range []struct{ t, want [][]api.Rat }{
		{nil, nil},
		{table(nil), nil},
		{table(nil, nil, nil), nil},
		{filled(200, 0, 0), nil},
		{table(ints(1, 2, 3)), table(ints(1), ints(2), ints(3))},
		{table(ints(1), ints(2), ints(3)), table(ints(1, 2, 3))},
		{table(ints(1, 2), ints(3, 4)), table(ints(1, 3), ints(2, 4))},
		{table(ints(1, 2, 0), []api.Rat{frac(1, 2), frac(-1, 3), frac(0, 1)}), table([]api.Rat{frac(1, 1), frac(1, 2)}, []api.Rat{frac(2, 1), frac(-1, 3)}, ints(0, 0))},
		{filled(200, 1, 7), filled(1, 200, 7)},
		{filled(200, 200, 7), filled(200, 200, 7)},
	} {
		if a, e := Turn(c.t); e != api.OK || !equal(a, c.want) {
			t.Errorf("Turn(%v): %v, %v, want %v", c.t, a, e, c.want)
		}
	}
	for _, a := range mayNot() {
		if turned, e := Turn(a); e != api.ErrShape || len(turned) != 0 {
			t.Errorf("Turn(%v): %v, %v", a, turned, e)
		}
	}
}

func TestBeside(t *testing.T) {
	a := table(ints(1, 2), ints(3, 4))
	for _, c := range []struct {
		l    [][][]api.Rat
		want [][]api.Rat
		e    api.Errno
	}{
		{nil, nil, api.OK},
		{[][][]api.Rat{}, nil, api.OK},
		{[][][]api.Rat{nil}, nil, api.OK},
		{[][][]api.Rat{nil, {}, nil}, nil, api.OK},
		{[][][]api.Rat{{nil, nil}}, table(nil, nil), api.OK},
		{[][][]api.Rat{{nil, nil}, {nil, nil}}, table(nil, nil), api.OK},
		{[][][]api.Rat{{nil, nil}, a, {nil, nil}}, a, api.OK},
		{[][][]api.Rat{a}, a, api.OK},
		{[][][]api.Rat{a, {ints(5), ints(6)}}, table(ints(1, 2, 5), ints(3, 4, 6)), api.OK},
		{[][][]api.Rat{{ints(5), ints(6)}, a, {ints(7), ints(8)}}, table(ints(5, 1, 2, 7), ints(6, 3, 4, 8)), api.OK},
		{[][][]api.Rat{filled(3, 100, 1), filled(3, 100, 1)}, filled(3, 200, 1), api.OK},
		{[][][]api.Rat{filled(200, 200, 1), filled(200, 0, 1)}, filled(200, 200, 1), api.OK},
		{slices.Repeat([][][]api.Rat{filled(2, 1, 4)}, 200), filled(2, 200, 4), api.OK},
		{slices.Repeat([][][]api.Rat{filled(2, 0, 4)}, 500), filled(2, 0, 4), api.OK},
		{slices.Repeat([][][]api.Rat{filled(2, 1, 4)}, 201), nil, api.ErrShape},
		{[][][]api.Rat{filled(3, 100, 1), filled(3, 101, 1)}, nil, api.ErrShape},
		{[][][]api.Rat{filled(1, 200, 1), filled(1, 1, 1)}, nil, api.ErrShape},
		{[][][]api.Rat{filled(1, 200, 1), filled(1, 1, 1), filled(1, 0, 1)}, nil, api.ErrShape},
		{[][][]api.Rat{a, {ints(5)}}, nil, api.ErrShape},
		{[][][]api.Rat{{ints(5)}, a}, nil, api.ErrShape},
		{[][][]api.Rat{a, nil}, nil, api.ErrShape},
		{[][][]api.Rat{nil, a}, nil, api.ErrShape},
		{[][][]api.Rat{nil, {nil}}, nil, api.ErrShape},
		{[][][]api.Rat{a, a, {ints(5), ints(6), ints(7)}}, nil, api.ErrShape},
		{[][][]api.Rat{a, {ints(5)}, {ints(6)}}, nil, api.ErrShape},
	} {
		if b, e := Beside(c.l...); e != c.e || !equal(b, c.want) {
			t.Errorf("Beside(%v): %v, %v, want %v, %v", c.l, b, e, c.want, c.e)
		}
	}
	for _, a := range mayNot() {
		bare := filled(len(a), 0, 0)
		for _, l := range [][][][]api.Rat{{a}, {a, bare}, {bare, a}, {bare, a, bare}} {
			if b, e := Beside(l...); e != api.ErrShape || len(b) != 0 {
				t.Errorf("Beside(%v): %v, %v", l, b, e)
			}
		}
	}
}

// 12.3 (ring).

// mul is Mul of tables that fit.
func mul(t *testing.T, l ...[][]api.Rat) [][]api.Rat {
	t.Helper()
	p, e := Mul(l...)
	if e != api.OK {
		t.Fatalf("Mul(%v): %v", l, e)
	}
	return p
}

func TestProductsInAnyOrder(t *testing.T) {
	for seed, s := range sizes {
		for _, n := range squares {
			if s[1] == 0 {
				n = 0
			}
			a, b, c, d := drawn(s[0], s[1], seed), drawn(s[1], n, seed+100), drawn(n, n, seed+200), drawn(n, min(n, 2), seed+300)
			want := mul(t, a, b, c, d)
			for _, p := range [][][]api.Rat{
				mul(t, mul(t, mul(t, a, b), c), d),
				mul(t, mul(t, a, mul(t, b, c)), d),
				mul(t, mul(t, a, b), mul(t, c, d)),
				mul(t, a, mul(t, mul(t, b, c), d)),
				mul(t, a, mul(t, b, mul(t, c, d))),
				mul(t, a, b, mul(t, c, d)),
				mul(t, a, mul(t, b, c, d)),
			} {
				if !Same(p, want) {
					t.Fatalf("products of %v, %v, %v, %v: %v and %v", a, b, c, d, p, want)
				}
			}
		}
	}
}

func TestIdentChangesNothing(t *testing.T) {
	for seed, s := range slices.Concat(sizes, [][2]int{{1, 200}, {200, 1}, {40, 40}}) {
		a := drawn(s[0], s[1], seed)
		left, _ := Ident(s[0])
		right, _ := Ident(s[1])
		if !Same(mul(t, left, a), a) || !Same(mul(t, a, right), a) || !Same(mul(t, left, a, right), a) {
			t.Fatalf("%v is changed by Ident", a)
		}
		if s[0] > 0 && s[1] > 0 {
			if v, e := Apply(right, a[0]); e != api.OK || !equalRows(v, a[0]) {
				t.Fatalf("Apply(Ident, %v): %v, %v", a[0], v, e)
			}
		}
	}
}

// What is multiplied to a sum is multiplied to both.
func TestProductOfASum(t *testing.T) {
	for _, n := range squares {
		a, b, c := drawn(n, n, 1), drawn(n, n, 2), drawn(n, n, 3)
		sum, _ := Add(a, b)
		left, e := Add(mul(t, c, a), mul(t, c, b))
		right, f := Add(mul(t, a, c), mul(t, b, c))
		if e != api.OK || f != api.OK || !Same(mul(t, c, sum), left) || !Same(mul(t, sum, c), right) {
			t.Fatalf("products of the sum of %v and %v with %v", a, b, c)
		}
	}
}

// 12.4 (turned).

// turn is Turn of a table that may be.
func turn(t *testing.T, a [][]api.Rat) [][]api.Rat {
	t.Helper()
	b, e := Turn(a)
	if e != api.OK {
		t.Fatalf("Turn(%v): %v", a, e)
	}
	return b
}

func TestTurnedTwice(t *testing.T) {
	for seed, s := range slices.Concat(sizes, [][2]int{{1, 200}, {200, 1}, {200, 200}}) {
		a := drawn(s[0], s[1], seed)
		if s[1] == 0 {
			a = nil // of rows without places none are left
		}
		if b := turn(t, turn(t, a)); !Same(b, a) {
			t.Fatalf("%v, turned twice: %v", a, b)
		}
	}
}

func TestProductTurned(t *testing.T) {
	for seed, s := range sizes {
		for _, n := range squares {
			if s[1] == 0 || n == 0 {
				continue
			}
			a, b, c := drawn(s[0], s[1], seed), drawn(s[1], n, seed+100), drawn(n, 2, seed+200)
			if p, want := turn(t, mul(t, a, b, c)), mul(t, turn(t, c), turn(t, b), turn(t, a)); !Same(p, want) {
				t.Fatalf("the product of %v, %v, %v turned: %v, want %v", a, b, c, p, want)
			}
		}
	}
}

// P1, P2, and the rules.

// told are the answers of all calls at the same tables, the same row and the same number.
type told struct {
	tables [7][][]api.Rat
	row    []api.Rat
	errors [7]api.Errno
	size   [2]int
	yes    bool
}

func answers(a, b [][]api.Rat, v []api.Rat, n int) told {
	var all told
	all.tables[0], all.errors[0] = Ident(n)
	all.tables[1], all.errors[1] = Add(a, b)
	all.tables[2], all.errors[2] = Mul(a, b)
	all.tables[3], all.errors[3] = Mul(a)
	all.tables[4], all.errors[4] = Turn(a)
	all.tables[5], all.errors[5] = Beside(a, b)
	all.tables[6] = Column(v)
	all.row, all.errors[6] = Apply(a, v)
	all.size[0], all.size[1] = Size(a)
	all.yes = Same(a, b)
	return all
}

func same(a, b told) bool {
	return slices.EqualFunc(a.tables[:], b.tables[:], equal) && equalRows(a.row, b.row) && a.errors == b.errors && a.size == b.size && a.yes == b.yes
}

// rows are all rows in these answers.
func (a told) rows() [][]api.Rat { return append(slices.Concat(a.tables[:]...), a.row) }

// Every call ends, and none panics, at fractions and tables that may not be as well; with an error all else is nothing.
func TestEveryCallAnswers(t *testing.T) {
	tables := slices.Concat(mays()[:6], mayNot()[:7], [][][]api.Rat{table(wrong), Column(wrong), table(wrong, wrong, wrong), table(ints(1, 2), wrong[:2]), drawn(len(wrong), 2, 1)})
	for _, x := range wrong {
		tables = append(tables, table([]api.Rat{x, rat.Of(2)}, []api.Rat{frac(1, 2), x}))
	}
	for _, a := range tables {
		for _, b := range tables {
			for _, v := range [][]api.Rat{nil, wrong, ints(1), ints(1, 2), wrong[6:8]} {
				first := answers(a, b, v, len(v)-1)
				if !same(first, answers(a, b, v, len(v)-1)) {
					t.Fatalf("at %v, %v, %v: twice asked, two answers", a, b, v)
				}
				for i, e := range first.errors[:6] {
					if e != api.OK && len(first.tables[i]) != 0 {
						t.Fatalf("at %v, %v: %v beside %v", a, b, first.tables[i], e)
					}
				}
				if first.errors[6] != api.OK && len(first.row) != 0 {
					t.Fatalf("Apply(%v, %v): %v, %v", a, v, first.row, first.errors[6])
				}
			}
		}
	}
}

// roomy is a with room behind, in which nothing may be laid.
func roomy(a api.Nat) api.Nat { return append(make(api.Nat, 0, len(a)+8), a...) }

// apartRow and apart are a row, and a table, of memory of its own, with room behind all lists.
func apartRow(row []api.Rat) []api.Rat {
	copies := make([]api.Rat, 0, len(row)+4)
	for _, a := range row {
		copies = append(copies, api.Rat{Num: api.Int{Neg: a.Num.Neg, Abs: roomy(a.Num.Abs)}, Den: roomy(a.Den)})
	}
	return copies
}

func apart(a [][]api.Rat) [][]api.Rat {
	copies := make([][]api.Rat, 0, len(a)+4)
	for _, row := range a {
		copies = append(copies, apartRow(row))
	}
	return copies
}

// clean tells whether nothing lies in the room behind a table's rows, its places and its fractions.
func clean(a [][]api.Rat) bool {
	for _, row := range a {
		for _, x := range row {
			for _, list := range []api.Nat{x.Num.Abs, x.Den} {
				if slices.ContainsFunc(list[len(list):cap(list)], func(x uint64) bool { return x != 0 }) {
					return false
				}
			}
		}
		if slices.ContainsFunc(row[len(row):cap(row)], func(x api.Rat) bool { return !nothing(x) }) {
			return false
		}
	}
	return !slices.ContainsFunc(a[len(a):cap(a)], func(row []api.Rat) bool { return row != nil })
}

// spoil fills all memory of these rows, and of their fractions.
func spoil(rows [][]api.Rat) {
	for _, row := range rows {
		for _, a := range row {
			for _, list := range []api.Nat{a.Num.Abs[:cap(a.Num.Abs)], a.Den[:cap(a.Den)]} {
				for i := range list {
					list[i] = 77
				}
			}
		}
		clear(row[:cap(row)])
	}
}

func TestWhatIsHandedInIsNotChanged(t *testing.T) {
	for seed, s := range sizes {
		a, b := drawn(s[0], s[1], seed), drawn(s[1], s[0], seed+100)
		if len(b) > 0 && len(b[0]) > 0 {
			copy(b[0], wrong)
		}
		v := slices.Concat(wrong, wrong)[:s[1]]
		c, d, w := apart(a), apart(b), apartRow(v)
		answers(c, d, w, 3)
		answers(d, c, w, 3)
		answers(c, c, w, 3)
		l := [][][]api.Rat{c, d, c}
		Mul(l...)
		Beside(l[:1]...)
		if !equal(a, c) || !equal(b, d) || !equalRows(v, w) || !clean(c) || !clean(d) || !clean(table(w)) || !equal(l[0], a) || !equal(l[1], b) || !equal(l[2], a) {
			t.Fatalf("%v, %v, %v are changed to %v, %v, %v", a, b, v, c, d, w)
		}
	}
}

// What is handed out is memory of its own: it shares none with what is handed in, and no two lists of it share any.
func TestMemoryIsNotShared(t *testing.T) {
	for seed, n := range squares {
		a, b := drawn(n, n, seed), drawn(n, n, seed+100)
		c, d := apart(a), apart(b)
		v := ints(slices.Repeat([]int{5}, n)...)
		w := apartRow(v)
		all := answers(c, d, w, n)
		if all.errors != [7]api.Errno{} {
			t.Fatalf("at %v, %v, %v: %v", a, b, v, all.errors)
		}
		twice, _ := Mul(c, d, c)
		alone, _ := Beside(c)
		again, _ := Beside(c, c)
		rows := slices.Concat(all.rows(), twice, alone, again)
		kept := apart(rows)
		for i, row := range rows {
			for j := range row {
				spoil([][]api.Rat{row[j : j+1 : j+1]})
				if !equalRows(row[j+1:], kept[i][j+1:]) {
					t.Fatalf("at %v, %v: fractions of one row share memory", a, b)
				}
			}
			spoil([][]api.Rat{row})
			if !equal(rows[i+1:], kept[i+1:]) {
				t.Fatalf("at %v, %v: rows share memory", a, b)
			}
		}
		for _, answer := range append(all.tables[:], twice, alone, again) {
			clear(answer[:cap(answer)])
		}
		if !equal(a, c) || !equal(b, d) || !equalRows(v, w) {
			t.Fatalf("answers share memory with %v, %v, %v", a, b, v)
		}
	}
}

// What was handed out stays as it is, whatever becomes of what was handed in.
func TestAnswersAreNotChangedLater(t *testing.T) {
	for seed, n := range squares {
		a, b, v := drawn(n, n, seed), drawn(n, n, seed+100), ints(slices.Repeat([]int{5}, n)...)
		c, d, w := apart(a), apart(b), apartRow(v)
		all, want := answers(c, d, w, 3), answers(a, b, v, 3)
		spoil(c)
		spoil(d)
		spoil(table(w))
		clear(c)
		clear(d)
		answers(drawn(n, n, 7), drawn(n, n, 8), v, 3)
		if !same(all, want) {
			t.Fatalf("at %v, %v, %v: %v is %v by now", a, b, v, want, all)
		}
	}
}

func TestRefusedCallsChangeNothing(t *testing.T) {
	for _, n := range squares {
		a, b, v := drawn(n, n, 1), drawn(n, n, 2), ints(slices.Repeat([]int{5}, n)...)
		before := answers(a, b, v, 3)
		more := table(ints(slices.Repeat([]int{1}, n+1)...))
		for range n + 1 {
			more = append(more, more[0])
		}
		_, ident := Ident(201)
		_, sum := Add(a, more)
		_, product := Mul(a, b, more, a)
		_, applied := Apply(a, append(slices.Clone(v), rat.Of(1)))
		_, turned := Turn(append(more, nil))
		_, beside := Beside(a, more)
		want := [...]api.Errno{api.ErrArg, api.ErrShape, api.ErrShape, api.ErrShape, api.ErrShape, api.ErrShape, api.ErrShape}
		if got := [...]api.Errno{ident, sum, product, applied, turned, beside, Check(append(more, nil))}; got != want {
			t.Fatalf("not refused: %v", got)
		}
		if !same(before, answers(a, b, v, 3)) {
			t.Fatalf("at %v, %v: other answers behind a refused call", a, b)
		}
	}
}
