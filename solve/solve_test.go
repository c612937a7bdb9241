package solve

import (
	"math"
	"math/big"
	"slices"
	"testing"

	"trivium/api"
	"trivium/gauss"
	"trivium/matrix"
	"trivium/nat"
	"trivium/rat"
	"trivium/ratio"
	"trivium/whole"
)

const top = 1<<32 - 1 // the greatest limb

// wrong are fractions that may not be.
var wrong = []api.Rat{
	{},
	{Den: api.Nat{}},
	{Den: api.Nat{0}},
	{Den: api.Nat{2, 0}},
	{Num: api.Int{Neg: true}, Den: api.Nat{1}},
	{Num: api.Int{Abs: api.Nat{1}}},
	{Num: api.Int{Neg: true, Abs: api.Nat{7}}, Den: api.Nat{}},
	{Num: api.Int{Abs: api.Nat{1}}, Den: api.Nat{0}},
	{Num: api.Int{Neg: true, Abs: api.Nat{3}}, Den: api.Nat{9}},
	{Num: api.Int{Abs: api.Nat{5, 0}}, Den: api.Nat{1}},
	{Num: api.Int{Abs: api.Nat{0, 0}}, Den: api.Nat{1}},
	{Num: api.Int{Abs: api.Nat{1 << 32}}, Den: api.Nat{1 << 32, 1}},
	{Num: api.Int{Neg: true, Abs: slices.Repeat(api.Nat{1<<64 - 1}, 7)}, Den: api.Nat{0, 1 << 40, 0}},
}

// bare is 0, with a list that is empty, but not nil.
var bare = api.Rat{Num: api.Int{Abs: api.Nat{}}, Den: api.Nat{1}}

// frac is n over d, which is not 0.
func frac(n, d int) api.Rat {
	a, _ := rat.Frac(n, d)
	return a
}

// ints is a row of whole numbers; fracs is one of fractions, whose parts stand side by side.
func ints(l ...int) []api.Rat {
	row := make([]api.Rat, len(l))
	for i, n := range l {
		row[i] = rat.Of(n)
	}
	return row
}

func fracs(l ...int) []api.Rat {
	row := make([]api.Rat, len(l)/2)
	for i := range row {
		row[i] = frac(l[2*i], l[2*i+1])
	}
	return row
}

// table is a table of these rows.
func table(rows ...[]api.Rat) [][]api.Rat { return rows }

// filled is a table of so many rows, and places a row, with n in each.
func filled(rows, places, n int) [][]api.Rat {
	t := make([][]api.Rat, rows)
	for i := range t {
		t[i] = ints(slices.Repeat([]int{n}, places)...)
	}
	return t
}

// ident is 1 down the middle, and 0 else.
func ident(n int) [][]api.Rat {
	t := filled(n, n, 0)
	for i := range t {
		t[i][i] = rat.Of(1)
	}
	return t
}

// of is a, which may be, as a fraction of math/big, by which the sums here are made; back is the way back.
func of(a api.Rat) *big.Rat {
	n, ok := new(big.Rat).SetString(ratio.Print(a))
	if !ok {
		panic("no fraction: " + ratio.Print(a))
	}
	return n
}

func back(n *big.Rat) api.Rat {
	a, e := ratio.Parse(new(big.Rat).Abs(n).String())
	if e != api.OK {
		panic("no fraction: " + n.String())
	}
	if n.Sign() < 0 {
		return rat.Neg(a)
	}
	return a
}

// nothing tells whether a is the zero value.
func nothing(a api.Rat) bool { return !a.Num.Neg && a.Num.Abs == nil && a.Den == nil }

// equalRows and equal tell whether both have the same fractions, limb by limb, in as many rows.
func equalRows(a, b []api.Rat) bool { return slices.EqualFunc(a, b, rat.Same) }
func equal(a, b [][]api.Rat) bool   { return slices.EqualFunc(a, b, equalRows) }

// sameReport tells whether both are the same.
func sameReport(a, b Report) bool {
	return a.Rank == b.Rank && slices.Equal(a.Free, b.Free) && a.Clash == b.Clash
}

// draws are numbers, for each seed others, always the same.
type draws uint64

func (x *draws) next() uint64 {
	*x ^= *x << 13
	*x ^= *x >> 7
	*x ^= *x << 17
	return uint64(*x)
}

func drawsOf(seed int) *draws {
	x := draws(uint64(seed+1) * 88172645463325252)
	return &x
}

// fraction is a nought, or a small or a great fraction.
func (x *draws) fraction() api.Rat {
	n := x.next()
	number, lower := int(n>>8)%1000, int(n>>40)%60+1
	switch n % 8 {
	case 0, 1:
		return rat.Of(0)
	case 2:
		return bare
	case 3:
		return frac(int(n>>1), math.MaxInt-lower)
	case 4, 5:
		return rat.Of(number%7 - 3)
	default:
		return frac(number-500, lower)
	}
}

// nonzero is a small fraction that is not 0.
func (x *draws) nonzero() api.Rat {
	n := x.next()
	return frac(int(n%2)*18-9+int(n>>8)%9, int(n>>40)%9+1)
}

// drawn is a table of so many rows, and places a row; small is one likewise, of small fractions alone.
func drawn(rows, places, seed int) [][]api.Rat { return made(rows, places, drawsOf(seed).fraction) }
func small(rows, places, seed int) [][]api.Rat { return made(rows, places, drawsOf(seed).nonzero) }

func made(rows, places int, next func() api.Rat) [][]api.Rat {
	t := make([][]api.Rat, rows)
	for i := range t {
		t[i] = make([]api.Rat, places)
		for j := range t[i] {
			t[i][j] = next()
		}
	}
	return t
}

// mul is the product of both, which fit; its rows have so many places.
func mul(a, b [][]api.Rat, places int) [][]api.Rat {
	t := make([][]api.Rat, len(a))
	for i, row := range a {
		t[i] = make([]api.Rat, places)
		for j := range t[i] {
			sum := new(big.Rat)
			for k, x := range row {
				sum.Add(sum, new(big.Rat).Mul(of(x), of(b[k][j])))
			}
			t[i][j] = back(sum)
		}
	}
	return t
}

// regular is a table of n rows, in some order, that has an inverse.
func regular(n, seed int) [][]api.Rat {
	x, low, up := drawsOf(seed), ident(n), ident(n)
	for i := range n {
		for j := range n {
			if j < i {
				low[i][j] = x.nonzero()
			} else {
				up[i][j] = x.nonzero()
			}
		}
	}
	t := mul(low, up, n)
	for i := range n {
		j := int(x.next()>>1) % n
		t[i], t[j] = t[j], t[i]
	}
	return t
}

// stepped are steps of so many rows, with these pivots.
func stepped(rows, places int, pivots []int, seed int) [][]api.Rat {
	t, x := filled(rows, places, 0), drawsOf(seed)
	for i, at := range pivots {
		t[i][at] = rat.Of(1)
		for j := at + 1; j < places; j++ {
			if !slices.Contains(pivots, j) {
				t[i][j] = x.fraction()
			}
		}
	}
	return t
}

// shapes are sizes of tables, and where their pivots are.
var shapes = []struct {
	rows, places int
	pivots       []int
}{
	{1, 0, nil},
	{5, 0, nil},
	{1, 1, nil},
	{1, 1, []int{0}},
	{3, 4, nil},
	{1, 5, []int{0}},
	{1, 5, []int{3}},
	{1, 5, []int{4}},
	{5, 1, []int{0}},
	{2, 2, []int{1}},
	{2, 2, []int{0}},
	{3, 3, []int{0, 1, 2}},
	{3, 3, []int{0, 2}},
	{3, 3, []int{1, 2}},
	{3, 3, []int{0, 1}},
	{3, 5, []int{0, 1, 2}},
	{3, 5, []int{2, 3, 4}},
	{3, 5, []int{0, 2, 4}},
	{5, 3, []int{0, 1, 2}},
	{5, 3, []int{0, 2}},
	{5, 3, []int{1}},
	{4, 8, []int{1, 4, 5}},
	{6, 6, []int{0, 1, 3, 5}},
	{7, 7, []int{0, 1, 2, 3, 4, 5, 6}},
}

// way is one of the calls that solve equations.
type way struct {
	name  string
	solve func(a, b [][]api.Rat) ([][]api.Rat, api.Errno)
}

func ways() []way { return []way{{"Solve", Solve}, {"Exact", Exact}} }

// solved fails, unless both ways lead from a and b to x, and Why tells that they must.
func solved(tb testing.TB, a, b, x [][]api.Rat) {
	tb.Helper()
	for _, w := range ways() {
		if got, e := w.solve(a, b); e != api.OK || !equal(got, x) {
			tb.Fatalf("%s(%v, %v): %v, %v, want %v", w.name, a, b, got, e, x)
		}
	}
	tells(tb, a, b, Report{Rank: len(a)})
}

// unsolved fails, unless both ways tell this error, and nothing beside it.
func unsolved(tb testing.TB, a, b [][]api.Rat, want api.Errno) {
	tb.Helper()
	for _, w := range ways() {
		if x, e := w.solve(a, b); e != want || len(x) != 0 {
			tb.Errorf("%s(%v, %v): %v, %v, want %v", w.name, a, b, x, e, want)
		}
	}
}

// tells fails, unless Why tells this report.
func tells(tb testing.TB, a, b [][]api.Rat, want Report) {
	tb.Helper()
	if r, e := Why(a, b); e != api.OK || !sameReport(r, want) {
		tb.Fatalf("Why(%v, %v): %v, %v, want %v", a, b, r, e, want)
	}
}

// noReport fails, unless Why tells ErrShape, and nothing beside it.
func noReport(tb testing.TB, a, b [][]api.Rat) {
	tb.Helper()
	if r, e := Why(a, b); e != api.ErrShape || r.Rank != 0 || len(r.Free) != 0 || r.Clash {
		tb.Errorf("Why(%v, %v): %v, %v", a, b, r, e)
	}
}

// 16.1: Solve, Exact.

func TestSolve(t *testing.T) {
	for _, c := range []struct{ a, b, x [][]api.Rat }{
		{table(ints(2)), table(ints(1)), table(fracs(1, 2))}, // the example
		{nil, nil, nil},
		{[][]api.Rat{}, nil, nil},
		{nil, [][]api.Rat{}, nil},
		{table(ints(3)), table(nil), table(nil)},
		{ident(2), table(nil, []api.Rat{}), table(nil, nil)},
		{table(ints(2)), table(ints(0, 1, -2, 4)), table(fracs(0, 1, 1, 2, -1, 1, 2, 1))},
		{table(fracs(-2, 3)), table(fracs(5, 7)), table(fracs(-15, 14))},
		{table(fracs(1, 2)), table([]api.Rat{bare}), table(ints(0))},
		{table(ints(0, 1), ints(1, 0)), table(ints(5), ints(7)), table(ints(7), ints(5))},
		{table([]api.Rat{bare, rat.Of(1)}, []api.Rat{rat.Of(1), bare}), table([]api.Rat{bare}, ints(7)), table(ints(7), ints(0))},
		{table(ints(1, 2), ints(3, 4)), table(ints(1), ints(1)), table(ints(-1), ints(1))},
		{table(ints(1, 2), ints(3, 4)), ident(2), table(fracs(-2, 1, 1, 1), fracs(3, 2, -1, 2))},
		{table(fracs(1, 2, 1, 3), fracs(1, 4, 0, 1)), table(ints(1), fracs(1, 2)), table(ints(2), ints(0))},
		{table(fracs(1, 2, 1, 3), fracs(1, 5, 1, 7)), table(fracs(1, 11), fracs(1, 13)), table(fracs(-380, 143), fracs(609, 143))},
		{table(ints(0, 0, 2), ints(3, 0, 0), ints(0, 5, 0)), table(ints(1), ints(1), ints(1)), table(fracs(1, 3), fracs(1, 5), fracs(1, 2))},
		{table(ints(1, 2, 3), ints(2, 4, 5), ints(3, 7, 1)), table(ints(6), ints(11), ints(11)), table(ints(1), ints(1), ints(1))}, // the second pivot is 0 at first
		{table(ints(-1)), table(ints(math.MaxInt)), table(ints(-math.MaxInt))},
		{table(fracs(1, math.MaxInt, 1, 1), fracs(0, 1, math.MaxInt, 1)), table(ints(1), ints(math.MaxInt)), table(ints(0), ints(1))},
		{table(fracs(1, top, 0, 1), fracs(0, 1, top, 1)), table(ints(1), ints(1)), table(ints(top), fracs(1, top))},
	} {
		solved(t, c.a, c.b, c.x)
	}
}

// One number clears a row of both sides: what is cleared apart solves other equations.
func TestLowerPartsOfOneSideAlone(t *testing.T) {
	solved(t, ident(2), table(fracs(1, 2), fracs(1, 3)), table(fracs(1, 2), fracs(1, 3)))
	solved(t, table(fracs(1, 2, 0, 1), fracs(0, 1, 1, 3)), table(ints(1), ints(1)), table(ints(2), ints(3)))
	solved(t, table(fracs(1, 6, 0, 1), fracs(0, 1, 3, 4)), table(fracs(1, 4, 1, 1), fracs(5, 6, 0, 1)), table(fracs(3, 2, 6, 1), fracs(10, 9, 0, 1)))
}

func TestNoOneSolution(t *testing.T) {
	for _, c := range []struct{ a, b [][]api.Rat }{
		{table(ints(0)), table(ints(0))},
		{table(ints(0)), table(ints(1))},
		{table([]api.Rat{bare}), table(ints(0))},
		{table(ints(0)), table(nil)}, // no place of a has a pivot, though nothing is asked
		{table(ints(1, 2), ints(2, 4)), table(ints(1), ints(2))},
		{table(ints(1, 2), ints(2, 4)), table(ints(1), ints(3))},
		{table(ints(1, 2), ints(2, 4)), table(ints(1, 1, 1), ints(3, 4, 5))},
		{table(ints(0, 1), ints(0, 3)), table(ints(1), ints(1))},
		{table(ints(0, 1), ints(0, 3)), ident(2)}, // as many pivots as places, but not all of them on the left
		{table(ints(0, 0), ints(0, 0)), ident(2)},
		{table(ints(0, 0), ints(1, 3)), table(ints(0), ints(1))},
		{table(fracs(1, 2, 1, 3), fracs(3, 2, 1, 1)), table(ints(1), ints(1))},
		{table(ints(1, 2, 3), ints(4, 5, 6), ints(7, 8, 9)), filled(3, 1, 0)},
		{table(ints(1, 2, 3), ints(4, 5, 6), ints(7, 8, 9)), ident(3)},
		{filled(100, 100, 1), filled(100, 100, 1)},
		{filled(100, 100, 0), ident(100)},
	} {
		unsolved(t, c.a, c.b, api.ErrRank)
	}
}

// mayNot are tables that may not be.
func mayNot() [][][]api.Rat {
	return [][][]api.Rat{
		table(ints(1), ints(1, 2)),
		table(ints(1, 2), ints(1)),
		table(nil, ints(1)),
		table(ints(1), nil),
		table(ints(1, 0), ints(0, 1, 0)),
		table(ints(1, 0), ints(0)),
		table(ints(1, 0, 0), ints(0, 1, 0), ints(0, 0)),
		append(filled(199, 2, 1), ints(1)),
		filled(201, 1, 1),
		filled(201, 0, 0),
		filled(1, 201, 1),
		filled(2, 1000, 1),
		filled(201, 201, 0),
		ident(201),
		append(ident(200), nil),
	}
}

// oblong are tables that may be, but have not as many rows as places.
func oblong() [][][]api.Rat {
	return [][][]api.Rat{
		{nil}, {{}, {}}, filled(200, 0, 0), table(ints(1, 2)), table(ints(1), ints(2)), table(ints(0, 0)), filled(3, 4, 1), filled(4, 3, 0), filled(1, 200, 1), filled(200, 199, 0),
	}
}

func TestShapesThatDoNotFit(t *testing.T) {
	for _, a := range mayNot() {
		n := len(a)
		for _, b := range [][][]api.Rat{nil, ident(n), filled(n, 1, 1), filled(n, 0, 0), filled(1, 1, 1), a} {
			unsolved(t, a, b, api.ErrShape)
			noReport(t, a, b)
			unsolved(t, b, a, api.ErrShape)
			noReport(t, b, a)
		}
	}
	for _, a := range oblong() {
		for _, b := range [][][]api.Rat{nil, filled(len(a), 1, 1), ident(len(a)), a} {
			unsolved(t, a, b, api.ErrShape)
		}
	}
	for _, n := range []int{0, 1, 2, 5, 199, 200} { // b has a row too many, or too few
		for _, a := range [][][]api.Rat{ident(n), filled(n, n, 0)} {
			for _, b := range [][][]api.Rat{filled(n+1, 1, 1), filled(n+1, 0, 0), filled(max(0, n-1), 1, 1), ident(n + 2)} {
				if len(b) != n {
					unsolved(t, a, b, api.ErrShape)
					noReport(t, a, b)
				}
			}
		}
	}
}

// Of both errors the one that is named first is told.
func TestShapeIsToldAheadOfRank(t *testing.T) {
	unsolved(t, table(ints(0)), nil, api.ErrShape)
	unsolved(t, table(ints(0)), filled(2, 1, 0), api.ErrShape)
	unsolved(t, table(ints(0, 0)), filled(1, 1, 0), api.ErrShape)
	unsolved(t, filled(3, 3, 0), table(ints(1), ints(1), ints(1, 2)), api.ErrShape)
	unsolved(t, filled(2, 2, 0), filled(2, 201, 0), api.ErrShape)
	for _, c := range [][2][][]api.Rat{{filled(101, 101, 0), filled(101, 1, 0)}, {filled(1, 1, 0), filled(1, 101, 0)}} {
		if x, e := Exact(c[0], c[1]); e != api.ErrShape || len(x) != 0 {
			t.Errorf("Exact of %d rows and %d places: %v, %v", len(c[0]), len(c[1][0]), x, e)
		}
		if x, e := Solve(c[0], c[1]); e != api.ErrRank || len(x) != 0 {
			t.Errorf("Solve of %d rows and %d places: %v, %v", len(c[0]), len(c[1][0]), x, e)
		}
	}
}

// arrow has 1 down its middle, and at its last place; arrowed is what it makes of x.
func arrow(n int) [][]api.Rat {
	t := ident(n)
	for i := range n {
		t[i][n-1] = rat.Of(1)
	}
	return t
}

func arrowed(x [][]api.Rat) [][]api.Rat {
	t := slices.Clone(x)
	last := len(x) - 1
	for i := range last {
		t[i] = slices.Clone(x[i])
		for j, v := range x[last] {
			t[i][j] = rat.Add(t[i][j], v)
		}
	}
	return t
}

// Solve takes all tables that may be, though beside one another they may be none; Exact takes 100 rows and places.
func TestTheGreatest(t *testing.T) {
	for _, c := range []struct{ rows, places int }{
		{1, 100}, {1, 101}, {1, 199}, {1, 200}, {2, 198}, {2, 199}, {99, 1}, {100, 1}, {100, 100}, {100, 101}, {101, 1}, {101, 99}, {101, 100}, {150, 50}, {150, 51}, {199, 1}, {199, 2}, {200, 0}, {200, 1}, {200, 200},
	} {
		x := made(c.rows, c.places, func() api.Rat { return rat.Of(0) })
		for i := range x {
			for j := range x[i] {
				if (i+j)%7 == 0 {
					x[i][j] = frac(i-j, 2)
				}
			}
		}
		a, b := arrow(c.rows), arrowed(x)
		if got, e := Solve(a, b); e != api.OK || !equal(got, x) {
			t.Fatalf("Solve of %d rows and %d places: %v, %v", c.rows, c.places, got, e)
		}
		got, e := Exact(a, b)
		if c.rows <= 100 && c.places <= 100 && (e != api.OK || !equal(got, x)) {
			t.Fatalf("Exact of %d rows and %d places: %v, %v", c.rows, c.places, got, e)
		}
		if (c.rows > 100 || c.places > 100) && (e != api.ErrShape || len(got) != 0) {
			t.Fatalf("Exact of %d rows and %d places: %v, %v", c.rows, c.places, got, e)
		}
		tells(t, a, b, Report{Rank: c.rows})
		a[c.rows-1][c.rows-1] = rat.Of(0)
		if got, e := Solve(a, b); e != api.ErrRank || len(got) != 0 {
			t.Fatalf("Solve of %d rows and %d places, the last row noughts: %v, %v", c.rows, c.places, got, e)
		}
	}
}

// 16.2: Why.

func TestWhy(t *testing.T) {
	for _, c := range []struct {
		a, b [][]api.Rat
		want Report
	}{
		{nil, nil, Report{}},
		{[][]api.Rat{}, nil, Report{}},
		{table(nil), table(nil), Report{}},
		{table(nil), table(ints(0)), Report{}},
		{table(nil), table(ints(0, 0, 3)), Report{Clash: true}},
		{table(nil, nil), table(ints(0, 0), ints(0, 1)), Report{Clash: true}},
		{table(ints(2)), table(ints(1)), Report{Rank: 1}},
		{table(ints(0)), table(nil), Report{Free: []int{0}}},
		{table(ints(0)), table(ints(0)), Report{Free: []int{0}}},
		{table([]api.Rat{bare}), table([]api.Rat{bare}), Report{Free: []int{0}}},
		{table(ints(0)), table(ints(5)), Report{Free: []int{0}, Clash: true}},
		{table(ints(1, 2), ints(2, 4)), table(ints(1), ints(2)), Report{Rank: 1, Free: []int{1}}},
		{table(ints(1, 2), ints(2, 4)), table(ints(1), ints(3)), Report{Rank: 1, Free: []int{1}, Clash: true}},
		{table(ints(1, 2), ints(2, 4)), table(ints(1, 1), ints(2, 3)), Report{Rank: 1, Free: []int{1}, Clash: true}},
		{table(ints(1, 2), ints(2, 4)), ident(2), Report{Rank: 1, Free: []int{1}, Clash: true}},
		{table(ints(0, 1), ints(0, 3)), table(ints(1), ints(3)), Report{Rank: 1, Free: []int{0}}},
		{table(ints(0, 1), ints(0, 3)), table(ints(1), ints(1)), Report{Rank: 1, Free: []int{0}, Clash: true}},
		{table(ints(1, 2)), table(ints(3)), Report{Rank: 1, Free: []int{1}}}, // fewer rows than places
		{table(ints(0, 0, 7, 0)), table(ints(3)), Report{Rank: 1, Free: []int{0, 1, 3}}},
		{table(ints(1, 2, 3), ints(0, 0, 1)), filled(2, 3, 1), Report{Rank: 2, Free: []int{1}}},
		{table(ints(1), ints(2)), table(ints(3), ints(6)), Report{Rank: 1}}, // more rows than places
		{table(ints(1), ints(2)), table(ints(3), ints(5)), Report{Rank: 1, Clash: true}},
		{table(ints(0), ints(2)), table(ints(3), ints(5)), Report{Rank: 1, Clash: true}},
		{table(ints(1, 0), ints(0, 1), ints(1, 1)), table(ints(2), ints(3), ints(5)), Report{Rank: 2}},
		{table(ints(1, 0), ints(0, 1), ints(1, 1)), table(ints(2), ints(3), ints(4)), Report{Rank: 2, Clash: true}},
		{filled(3, 4, 0), filled(3, 2, 0), Report{Free: []int{0, 1, 2, 3}}},
		{filled(3, 4, 0), filled(3, 2, 1), Report{Free: []int{0, 1, 2, 3}, Clash: true}},
		{filled(3, 4, 2), filled(3, 2, 1), Report{Rank: 1, Free: []int{1, 2, 3}}},
	} {
		tells(t, c.a, c.b, c.want)
	}
}

// free are the places, of so many, that are no pivots'.
func free(places int, pivots []int) []int {
	var l []int
	for j := range places {
		if !slices.Contains(pivots, j) {
			l = append(l, j)
		}
	}
	return l
}

// What has an inverse, times steps, has their pivots; what it makes of rows that the steps leave 0, clashes.
func TestWhyOfMany(t *testing.T) {
	for k, s := range shapes {
		for seed := range 3 {
			rank := len(s.pivots)
			factor, steps := regular(s.rows, 10*k+seed), stepped(s.rows, s.places, s.pivots, 10*k+seed+50)
			a := mul(factor, steps, s.places)
			want := Report{Rank: rank, Free: free(s.places, s.pivots)}
			for _, places := range []int{0, 1, 3} {
				right := drawn(s.rows, places, 10*k+seed+100)
				for i := rank; i < s.rows; i++ {
					right[i] = filled(1, places, 0)[0]
				}
				tells(t, a, mul(factor, right, places), want)
				for i := rank; i < s.rows && places > 0; i++ {
					other := slices.Clone(right)
					other[i] = append(ints(slices.Repeat([]int{0}, places-1)...), frac(1, 7))
					tells(t, a, mul(factor, other, places), Report{Rank: want.Rank, Free: want.Free, Clash: true})
				}
			}
		}
	}
}

// By the words: the rank of a, its places without a pivot, and the rank of both beside one another, by layer 14.
func TestWhyByItsWords(t *testing.T) {
	x := drawsOf(9)
	for rows := range 5 {
		for places := range 6 {
			for seed := range 12 {
				a, b := filled(rows, places, 0), filled(rows, seed%4, 0)
				for i := range rows {
					for j := range places {
						a[i][j] = rat.Of(int(x.next()>>8)%3 - 1)
					}
					for j := range b[i] {
						b[i][j] = rat.Of(int(x.next()>>8) % 2)
					}
				}
				both, _ := matrix.Beside(a, b)
				_, pivots, _ := gauss.Reduce(a)
				more, _ := gauss.Rank(both)
				_, n := matrix.Size(a) // none without rows
				tells(t, a, b, Report{Rank: len(pivots), Free: free(n, pivots), Clash: more > len(pivots)})
			}
		}
	}
}

// Both may have more than 200 places together; each place of b, wherever it lies, may be the one that clashes.
func TestWhyOfTheGreatest(t *testing.T) {
	all := free(200, nil)
	low := ident(200) // the last row is noughts: what b has there clashes
	low[199][199] = rat.Of(0)
	for _, c := range []struct {
		a    [][]api.Rat
		want Report
	}{
		{ident(200), Report{Rank: 200}},
		{low, Report{Rank: 199, Free: []int{199}}},
		{filled(200, 200, 0), Report{Free: all}},
		{filled(200, 200, 1), Report{Rank: 1, Free: all[1:]}},
		{filled(200, 199, 2), Report{Rank: 1, Free: all[1:199]}},
		{filled(200, 0, 0), Report{}},
		{filled(200, 1, 3), Report{Rank: 1}},
		{filled(1, 200, 3), Report{Rank: 1, Free: all[1:]}},
		{filled(1, 200, 0), Report{Free: all}},
		{filled(2, 200, 5), Report{Rank: 1, Free: all[1:]}},
	} {
		rows := len(c.a)
		tells(t, c.a, filled(rows, 200, 0), c.want)
		tells(t, c.a, filled(rows, 0, 0), c.want)
		want := c.want
		want.Clash = want.Rank < rows
		for _, at := range []int{0, 1, 100, 199} {
			b := filled(rows, 200, 0)
			b[rows-1][at] = frac(-1, 3)
			tells(t, c.a, b, want)
		}
	}
	tells(t, low, append(filled(199, 200, 1), filled(1, 200, 0)...), Report{Rank: 199, Free: []int{199}})
	tells(t, filled(200, 200, 1), filled(200, 200, -4), Report{Rank: 1, Free: all[1:]})
}

// 16.1: Clear.

// printed are the numbers, and the one that they are multiplied by, as one text; "none", if one may not be.
func printed(l []api.Int, by api.Nat) string {
	text := ""
	for _, a := range append(slices.Clone(l), api.Int{Abs: by}) {
		if !nat.May(a.Abs) || a.Neg && len(a.Abs) == 0 {
			return "none"
		}
		text += " " + whole.Print(a)
	}
	return text[1:]
}

func TestClear(t *testing.T) {
	for _, c := range []struct {
		row  []api.Rat
		want string // the numbers, and the one that they are multiplied by
	}{
		{nil, "1"},
		{[]api.Rat{}, "1"},
		{ints(0), "0 1"},
		{[]api.Rat{bare, bare}, "0 0 1"},
		{ints(0, 0, 0), "0 0 0 1"},
		{ints(4, -6, 8), "4 -6 8 1"}, // whole already: nothing is divided
		{fracs(1, 2), "1 2"},
		{fracs(-1, 2), "-1 2"},
		{fracs(-4, 3), "-4 3"},
		{fracs(2, 3, 2, 3), "2 2 3"},
		{fracs(1, 2, -5, 6, 3, 1), "3 -5 18 6"},
		{fracs(1, 4, 1, 6), "3 2 12"}, // the least number, not the product
		{fracs(1, 6, 1, 4), "2 3 12"},
		{fracs(1, 2, 1, 3, 1, 5, 1, 7), "105 70 42 30 210"},
		{fracs(1, 8, 3, 4, 1, 2, 5, 1), "1 6 4 40 8"},
		{fracs(5, 1, 1, 2, 3, 4, 1, 8), "40 4 6 1 8"},
		{fracs(2, 7, 0, 1, -4, 7), "2 0 -4 7"},
		{fracs(0, 5, 1, 3), "0 1 3"},
		{fracs(1, top, 1, 1<<32), "4294967296 4294967295 18446744069414584320"},
		{fracs(1, 1<<33, -1, 1<<32, 1, 3), "3 -6 8589934592 25769803776"},
		{fracs(math.MaxInt, 2, math.MinInt+1, 1), "9223372036854775807 -18446744073709551614 2"},
	} {
		if l, by := Clear(c.row); printed(l, by) != c.want {
			t.Errorf("Clear(%v): %v, %v, want %s", c.row, l, by, c.want)
		}
	}
}

// By math/big; a row may be of any length.
func TestClearOfMany(t *testing.T) {
	for n := range 40 {
		for seed := range 4 {
			clears(t, drawn(1, n, 10*n+seed)[0])
			clears(t, small(1, n, 10*n+seed)[0])
		}
	}
	clears(t, small(1, 201, 1)[0])
	clears(t, drawn(1, 300, 2)[0])
	clears(t, small(1, 20000, 3)[0])
}

// clears fails, unless Clear tells each number times the least common multiple of all lower parts, and that.
func clears(tb testing.TB, row []api.Rat) {
	tb.Helper()
	least := big.NewInt(1)
	for _, a := range row {
		lower := of(a).Denom()
		least.Mul(least, new(big.Int).Div(lower, new(big.Int).GCD(nil, nil, least, lower)))
	}
	want := ""
	for _, a := range row {
		n := of(a)
		want += new(big.Int).Mul(n.Num(), new(big.Int).Div(least, n.Denom())).String() + " "
	}
	if l, by := Clear(row); printed(l, by) != want+least.String() {
		tb.Fatalf("Clear(%v): %v, %v, want %s%v", row, l, by, want, least)
	}
}

// 16.3 (solved), 16.4 (one).

// a makes b of the solution, by math/big; both ways lead to it.
func TestSolved(t *testing.T) {
	for n := range 8 {
		for seed := range 4 {
			for _, places := range []int{0, 1, 2, 5} {
				a := regular(n, 10*n+seed)
				x := small(n, places, 10*n+seed+100)
				solved(t, a, mul(a, x, places), x)
				b := drawn(n, places, 10*n+seed+200)
				got, e := Solve(a, b)
				if e != api.OK || !may(got) || !equal(mul(a, got, places), b) {
					t.Fatalf("Solve(%v, %v): %v, %v", a, b, got, e)
				}
				solved(t, a, b, got)
			}
		}
	}
	a := regular(14, 5)
	x := small(14, 2, 6)
	solved(t, a, mul(a, x, 2), x)
}

// Where both sides have more than 200 places together, the solution is the same, by as many places as one likes.
func TestSolvedByMorePlaces(t *testing.T) {
	for _, n := range []int{1, 2, 3, 4} {
		a, b := regular(n, n), drawn(n, 200, n)
		x, e := Solve(a, b)
		if e != api.OK || !may(x) || !equal(mul(a, x, 200), b) {
			t.Fatalf("Solve(%v, %v): %v, %v", a, b, x, e)
		}
		for _, places := range []int{1, 100, 200 - n, 201 - n} {
			part, wants := cut(b, places), cut(x, places)
			if y, e := Solve(a, part); e != api.OK || !equal(y, wants) {
				t.Fatalf("Solve(%v, %v): %v, %v, want %v", a, part, y, e, wants)
			}
		}
	}
}

// cut is the first places of each row.
func cut(t [][]api.Rat, places int) [][]api.Rat {
	rows := make([][]api.Rat, len(t))
	for i, row := range t {
		rows[i] = row[:places]
	}
	return rows
}

// may tells whether all fractions of a may be.
func may(a [][]api.Rat) bool {
	return !slices.ContainsFunc(a, func(row []api.Rat) bool {
		return slices.ContainsFunc(row, func(x api.Rat) bool { return !rat.May(x) })
	})
}

// There is no one solution just where there are free places, whatever b is.
func TestNoOneSolutionJustWherePlacesAreFree(t *testing.T) {
	x := drawsOf(3)
	for n := range 5 {
		for seed := range 40 {
			a := filled(n, n, 0)
			for i := range n {
				for j := range n {
					a[i][j] = frac(int(x.next()>>8)%3-1, 1+int(x.next()>>8)%2)
				}
			}
			b := small(n, seed%3, seed)
			r, e := Why(a, b)
			if e != api.OK || r.Rank+len(r.Free) != n {
				t.Fatalf("Why(%v, %v): %v, %v", a, b, r, e)
			}
			if len(r.Free) > 0 {
				unsolved(t, a, b, api.ErrRank)
				continue
			}
			for _, w := range ways() {
				if y, e := w.solve(a, b); e != api.OK || !equal(mul(a, y, seed%3), b) {
					t.Fatalf("%s(%v, %v): %v, %v", w.name, a, b, y, e)
				}
			}
		}
	}
}

// P1, P2, and the rules.

// pair is two tables; some are such of all kinds, none of them great.
type pair struct{ a, b [][]api.Rat }

func some() []pair {
	l := []pair{
		{nil, nil}, {[][]api.Rat{}, [][]api.Rat{}}, {table(nil), table(ints(3))}, {table(ints(0)), table([]api.Rat{bare})}, {table([]api.Rat{bare, bare}), table(ints(1))},
		{table(ints(1, 2), ints(2, 4)), table(ints(1), ints(2))}, {filled(3, 3, 1), ident(3)}, {filled(2, 5, 0), filled(2, 2, 7)}, {ident(4), ident(4)}, {ident(2), drawn(2, 200, 1)}, {filled(2, 2, 1), drawn(2, 200, 2)},
	}
	for seed, s := range shapes {
		l = append(l, pair{stepped(s.rows, s.places, s.pivots, seed), drawn(s.rows, 1+seed%3, seed)})
	}
	for n := range 5 {
		a := regular(n, n)
		l = append(l, pair{a, drawn(n, 2, n)}, pair{a, a}, pair{drawn(n, n, n+9), filled(n, 0, 0)})
	}
	for _, a := range mayNot() {
		if len(a) < 9 {
			l = append(l, pair{a, a}, pair{ident(len(a)), a}, pair{a, ident(len(a))})
		}
	}
	return l
}

// told are the answers of all calls at two tables, and their first rows.
type told struct {
	tables  [2][][]api.Rat
	report  Report
	numbers [2][]api.Int
	by      [2]api.Nat
	errors  [3]api.Errno
}

func answers(a, b [][]api.Rat) told {
	var all told
	all.tables[0], all.errors[0] = Solve(a, b)
	all.tables[1], all.errors[1] = Exact(a, b)
	all.report, all.errors[2] = Why(a, b)
	for i, t := range [][][]api.Rat{a, b} {
		if len(t) > 0 {
			all.numbers[i], all.by[i] = Clear(t[0])
		}
	}
	return all
}

func sameInts(a, b []api.Int) bool {
	return slices.EqualFunc(a, b, func(x, y api.Int) bool { return x.Neg == y.Neg && slices.Equal(x.Abs, y.Abs) })
}

func same(a, b told) bool {
	for i := range 2 {
		if !equal(a.tables[i], b.tables[i]) || !sameInts(a.numbers[i], b.numbers[i]) || !slices.Equal(a.by[i], b.by[i]) {
			return false
		}
	}
	return sameReport(a.report, b.report) && a.errors == b.errors
}

// Every call ends, and none panics, at fractions that may not be as well; it tells the same when it is asked again, and nothing beside an error.
func TestEveryCallAnswers(t *testing.T) {
	x := drawsOf(5)
	for n := range 10 {
		for _, share := range []uint64{1, 2, 5} { // of so many fractions one may not be
			next := func() api.Rat {
				if x.next()%share == 0 {
					return wrong[x.next()%uint64(len(wrong))]
				}
				return x.nonzero()
			}
			for _, places := range []int{1, n, 200 - n} {
				a, b := made(n, n, next), made(n, places, next)
				all := answers(a, b)
				if !same(all, answers(a, b)) {
					t.Fatalf("at %v, %v: asked again, another answer", a, b)
				}
				for i, x := range all.tables {
					if all.errors[i] != api.OK && len(x) != 0 {
						t.Fatalf("at %v, %v: %v beside error %d", a, b, x, all.errors[i])
					}
				}
				answers(b, a)
			}
		}
	}
	for _, v := range wrong {
		one, two := table([]api.Rat{v}), table([]api.Rat{v, v}, []api.Rat{v, v})
		for _, a := range [][][]api.Rat{one, two, table([]api.Rat{rat.Of(1), v}, []api.Rat{v, rat.Of(1)}), ident(2), filled(2, 2, 0), filled(1, 200, 1)} {
			answers(a, one)
			answers(a, two)
			answers(a, made(len(a), 200, func() api.Rat { return v }))
		}
		unsolved(t, one, two, api.ErrShape)
		unsolved(t, two, table([]api.Rat{v}, nil), api.ErrShape)
		noReport(t, one, two)
		noReport(t, table([]api.Rat{v}, nil), two)
	}
}

// roomy is a with room behind, in which nothing may be laid.
func roomy(a api.Rat) api.Rat {
	room := func(l api.Nat) api.Nat { return append(make(api.Nat, 0, len(l)+8), l...) }
	return api.Rat{Num: api.Int{Neg: a.Num.Neg, Abs: room(a.Num.Abs)}, Den: room(a.Den)}
}

// apart is a table of memory of its own, with room behind all lists.
func apart(a [][]api.Rat) [][]api.Rat {
	copies := make([][]api.Rat, 0, len(a)+4)
	for _, row := range a {
		own := make([]api.Rat, 0, len(row)+4)
		for _, x := range row {
			own = append(own, roomy(x))
		}
		copies = append(copies, own)
	}
	return copies
}

// clean tells whether nothing lies in the room behind a table's rows, its places and its fractions.
func clean(a [][]api.Rat) bool {
	for _, row := range a {
		for _, x := range row {
			for _, list := range []api.Nat{x.Num.Abs, x.Den} {
				if slices.ContainsFunc(list[len(list):cap(list)], func(x uint64) bool { return x != 0 }) {
					return false
				}
			}
		}
		if slices.ContainsFunc(row[len(row):cap(row)], func(x api.Rat) bool { return !nothing(x) }) {
			return false
		}
	}
	return !slices.ContainsFunc(a[len(a):cap(a)], func(row []api.Rat) bool { return row != nil })
}

// spoil fills all memory of this list.
func spoil(l api.Nat) {
	l = l[:cap(l)]
	for i := range l {
		l[i] = 77
	}
}

// What is handed in is neither changed nor kept.
func TestWhatIsHandedInIsLeftAlone(t *testing.T) {
	for _, c := range some() {
		a, b := apart(c.a), apart(c.b)
		first := answers(a, b)
		if !equal(a, c.a) || !equal(b, c.b) || !clean(a) || !clean(b) {
			t.Fatalf("%v, %v are changed to %v, %v", c.a, c.b, a, b)
		}
		for _, table := range [][][]api.Rat{a, b} {
			for _, row := range table {
				for _, x := range row {
					spoil(x.Num.Abs)
					spoil(x.Den)
				}
				clear(row)
			}
			clear(table)
		}
		if !same(first, answers(c.a, c.b)) {
			t.Fatalf("%v, %v: what was handed in was kept", c.a, c.b)
		}
	}
}

// spoilTable fills all memory of a table that is handed out, and fails, if some of it is that of another part of the table.
func spoilTable(tb testing.TB, a, want [][]api.Rat) {
	tb.Helper()
	for i, row := range a {
		for j, x := range row {
			if !rat.Same(x, want[i][j]) {
				tb.Fatalf("fractions of one answer share memory: %v", want)
			}
			spoil(x.Num.Abs)
			spoil(x.Den)
		}
	}
	for i, row := range a {
		for j := range row[:cap(row)] {
			row[:cap(row)][j] = rat.Of(i)
		}
	}
	for i, row := range a {
		if slices.ContainsFunc(row, func(x api.Rat) bool { return !rat.Same(x, rat.Of(i)) }) {
			tb.Fatalf("rows of one answer share memory: %v", want)
		}
	}
	clear(a)
}

// spoilNumbers does so with what Clear hands out.
func spoilNumbers(tb testing.TB, l []api.Int, by api.Nat, want []api.Int) {
	tb.Helper()
	spoil(by)
	for i, x := range l {
		if !sameInts(l[i:], want[i:]) {
			tb.Fatalf("numbers of one answer share memory: %v", want)
		}
		spoil(x.Abs)
	}
	clear(l[:cap(l)])
}

// What is handed out is memory of its own: it shares none with the tables, and no two lists of it share any.
func TestMemoryIsNotShared(t *testing.T) {
	for _, c := range some() {
		a, b := apart(c.a), apart(c.b)
		all, want := answers(a, b), answers(a, b)
		for i := range 2 {
			spoilTable(t, all.tables[i], want.tables[i])
			spoilNumbers(t, all.numbers[i], all.by[i], want.numbers[i])
		}
		clear(all.report.Free)
		if !equal(a, c.a) || !equal(b, c.b) || !clean(a) || !clean(b) || !same(want, answers(a, b)) {
			t.Fatalf("answers share memory with %v, %v", c.a, c.b)
		}
	}
}

// One row that stands on both sides, and more than once, stays as it is; one table may be both sides.
func TestRowsThatAreOne(t *testing.T) {
	row, other := []api.Rat{roomy(rat.Of(2)), roomy(frac(1, 3))}, []api.Rat{roomy(rat.Of(0)), roomy(rat.Of(-3))}
	a := table(other, row)
	solved(t, a, a, ident(2))
	solved(t, ident(2), table(row, row), table(row, row))
	unsolved(t, table(row, row), a, api.ErrRank)
	tells(t, table(row, row), a, Report{Rank: 1, Free: []int{1}, Clash: true})
	tells(t, table(row, row), table(row, row), Report{Rank: 1, Free: []int{1}})
	if !equalRows(row, fracs(2, 1, 1, 3)) || !equalRows(other, ints(0, -3)) || !clean(a) {
		t.Errorf("%v, %v", row, other)
	}
}

func TestRefusedCallsChangeNothing(t *testing.T) {
	none := append(mayNot()[:7], oblong()[3:8]...)
	for _, c := range some() {
		before := answers(c.a, c.b)
		for _, a := range none {
			answers(a, c.b)
			answers(c.a, a)
		}
		unsolved(t, filled(2, 2, 1), filled(2, 1, 1), api.ErrRank)
		if !same(before, answers(c.a, c.b)) {
			t.Fatalf("at %v, %v: other answers behind a refused call", c.a, c.b)
		}
	}
}
